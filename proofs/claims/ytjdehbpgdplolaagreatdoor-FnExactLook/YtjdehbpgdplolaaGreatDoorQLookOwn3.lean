/- Several texts in one: VecE, VecI, VecJ, VecK, VecL, SkyA, VecF. -/
import Derived.Lib.QuietBelow
import Derived.Test.YtjdehbpgdplolaaGreatDoorChecked
import Derived.WalkKit
import Derived.LaidEql
import Derived.Stop.Asserts
import Derived.RowKitTokens
import Derived.Deep.QuietTactic
import Derived.BigQuiet
import Derived.BigRegion
import Derived.Test.YtjdehbpgdplolaaGreatDoorQLookOwn2
namespace Go.Proofs.YtjdehbpgdplolaaGreatDoor
open Go.RowKit Go.Sort
set_option linter.unusedVariables false

set_option maxHeartbeats 2000000 in
set_option maxRecDepth 100000 in
theorem det_any (a1 a2 a3 b1 b2 b3 c1 c2 c3 : Int) (w : World) :
    Calls Tryz.prog 116 #[.agg #[.int .i64 a1, .int .i64 a2, .int .i64 a3], .agg #[.int .i64 b1, .int .i64 b2, .int .i64 b3], .agg #[.int .i64 c1, .int .i64 c2, .int .i64 c3]] w fun e w' => e = .returned (.int .i64 (detI a1 a2 a3 b1 b2 b3 c1 c2 c3)) ∧ Below w.heap.size w w' := by
  go_enter Tryz.func116, Tryz.ntmps116
  go_wp2_with fail
  refine (vecRight_any a1 a2 a3 _).mono ?_
  rintro e w1 ⟨rfl, hB1⟩
  have hB : Below w.heap.size w w1 := below_call (below3 _ _ _ _) hB1
  have hs : w.heap.size + 3 ≤ w1.heap.size := by have := hB1.size; simpa [Nat.add_assoc] using this
  have va : VecAt w1 w.heap.size a1 a2 a3 := (((by simpa using vecAt_new w a1 a2 a3 _ : VecAt _ w.heap.size a1 a2 a3).alloc (by simp) _).alloc (by simp; omega) _).kept (by simp; omega) hB1
  have vb : VecAt w1 (w.heap.size + 1) b1 b2 b3 := ((by simpa using vecAt_new (w.alloc _) b1 b2 b3 _ : VecAt _ (w.heap.size + 1) b1 b2 b3).alloc (by simp) _).kept (by simp) hB1
  have vc : VecAt w1 (w.heap.size + 1 + 1) c1 c2 c3 := (by simpa using vecAt_new ((w.alloc _).alloc _) c1 c2 c3 _ : VecAt _ (w.heap.size + 1 + 1) c1 c2 c3).kept (by simp) hB1
  clear hB1
  have hva := va
  obtain ⟨ca0, ca1, ca2⟩ := va
  have hvb := vb
  obtain ⟨cb0, cb1, cb2⟩ := vb
  have hvc := vc
  obtain ⟨cc0, cc1, cc2⟩ := vc
  cases ha : rightB a1 a2 a3
  · go_wp2_with fail
    go_ret
    exact ⟨by simp [detI, ha], hB⟩
  · go_wp2_with fail
    refine (vecRight_any b1 b2 b3 _).mono ?_
    rintro e w2 ⟨rfl, hB2⟩
    have va := hva.kept (by omega) hB2
    have vb := hvb.kept (by omega) hB2
    have vc := hvc.kept (by omega) hB2
    replace hs : w.heap.size + 3 ≤ w2.heap.size := by have := hB2.size; omega
    replace hB : Below w.heap.size w w2 := below_call hB hB2
    clear hva ca0 ca1 ca2 hvb cb0 cb1 cb2 hvc cc0 cc1 cc2
    clear hB2
    have hva := va
    obtain ⟨ca0, ca1, ca2⟩ := va
    have hvb := vb
    obtain ⟨cb0, cb1, cb2⟩ := vb
    have hvc := vc
    obtain ⟨cc0, cc1, cc2⟩ := vc
    cases hb : rightB b1 b2 b3
    · go_wp2_with fail
      go_ret
      exact ⟨by simp [detI, hb], hB⟩
    · go_wp2_with fail
      refine (vecRight_any c1 c2 c3 _).mono ?_
      rintro e w3 ⟨rfl, hB3⟩
      have va := hva.kept (by omega) hB3
      have vb := hvb.kept (by omega) hB3
      have vc := hvc.kept (by omega) hB3
      replace hs : w.heap.size + 3 ≤ w3.heap.size := by have := hB3.size; omega
      replace hB : Below w.heap.size w w3 := below_call hB hB3
      clear hva ca0 ca1 ca2 hvb cb0 cb1 cb2 hvc cc0 cc1 cc2
      clear hB3
      have hva := va
      obtain ⟨ca0, ca1, ca2⟩ := va
      have hvb := vb
      obtain ⟨cb0, cb1, cb2⟩ := vb
      have hvc := vc
      obtain ⟨cc0, cc1, cc2⟩ := vc
      cases hc : rightB c1 c2 c3
      · go_wp2_with fail
        go_ret
        exact ⟨by simp [detI, hc], hB⟩
      · go_wp2_with fail
        clear hva hvb hvc
        have HD := hide (show detI a1 a2 a3 b1 b2 b3 c1 c2 c3 = dotW (crW a2 a3 b2 b3) (crW a3 a1 b3 b1) (crW a1 a2 b1 b2) c1 c2 c3 by simp [detI, ha, hb, hc])
        have ka0 := cell_regrown ca0
        have ka1 := cell_regrown ca1
        have ka2 := cell_regrown ca2
        have kb0 := cell_regrown cb0
        have kb1 := cell_regrown cb1
        have kb2 := cell_regrown cb2
        have kc0 := cell_regrown cc0
        have kc1 := cell_regrown cc1
        have kc2 := cell_regrown cc2
        refine wp_region_quiet_below (by kernel_rfl) (by kernel_rfl) ?_
        repeat (quiet_step (first | exact Calls.regrown_of (cross_any a1 a2 a3 b1 b2 b3 _) | exact Calls.regrown_of (times_any _ _ _ c1 c2 c3 _)))
        refine wpQuiet_nil ?_
        intro _ hw'
        obtain ⟨⟨dq, osq⟩, hw''⟩ := hw'
        subst hw''
        clear ca0 ka0 ca1 ka1 ca2 ka2 cb0 kb0 cb1 kb1 cb2 kb2 cc0 kc0 cc1 kc1 cc2 kc2
        go_wp2
        go_ret
        exact ⟨by rw [unhide HD]; simp [crI], below_call hB (below_regrown w3 dq osq)⟩
end Go.Proofs.YtjdehbpgdplolaaGreatDoor

namespace Go.Proofs.YtjdehbpgdplolaaGreatDoor
open Go.RowKit Go.Sort
set_option linter.unusedVariables false

set_option maxRecDepth 100000 in
theorem square_any (x y z : Int) (w : World) :
    Calls Tryz.prog 119 #[.agg #[.int .i64 x, .int .i64 y, .int .i64 z]] w fun e w' => e = .returned (.int .i64 (dotW x y z x y z)) ∧ Below w.heap.size w w' := by
  go_enter Tryz.func119, Tryz.ntmps119
  go_wp2_with fail
  refine (times_any x y z x y z _).mono ?_
  rintro e w1 ⟨rfl, hB1⟩
  have hB : Below w.heap.size w w1 := below_call (below1 _ _) hB1
  go_wp2_with fail
  go_ret
  exact ⟨rfl, hB⟩
set_option maxRecDepth 100000 in
theorem isWide_any (x y z : Int) (w : World) :
    Calls Tryz.prog 50 #[.agg #[.int .i64 x, .int .i64 y, .int .i64 z]] w fun e w' => e = .returned (.bool (wideB x y z)) ∧ Below w.heap.size w w' := by
  go_enter Tryz.func50, Tryz.ntmps50
  go_wp2_with fail
  refine (vecRight_any x y z _).mono ?_
  rintro e w1 ⟨rfl, hB1⟩
  have hB : Below w.heap.size w w1 := below_call (below1 _ _) hB1
  have va : VecAt w1 w.heap.size x y z := (vecAt_new w x y z _).kept (by simp) hB1
  clear hB1
  obtain ⟨ca0, ca1, ca2⟩ := va
  cases ha : rightB x y z
  · go_wp2_with fail
    go_ret
    exact ⟨by simp [wideB, ha], hB⟩
  · go_wp2_with fail
    refine (within_any 1800 x y z _ (by omega) (by omega)).mono ?_
    rintro e w2 ⟨rfl, hB2⟩
    replace hB := below_call hB hB2
    go_wp2_with fail
    go_ret
    exact ⟨by simp [wideB, ha], hB⟩
set_option maxRecDepth 100000 in
theorem isSmall_any (x y z : Int) (w : World) :
    Calls Tryz.prog 102 #[.agg #[.int .i64 x, .int .i64 y, .int .i64 z]] w fun e w' => e = .returned (.bool (smallB x y z)) ∧ Below w.heap.size w w' := by
  go_enter Tryz.func102, Tryz.ntmps102
  go_wp2_with fail
  refine (vecRight_any x y z _).mono ?_
  rintro e w1 ⟨rfl, hB1⟩
  have hB : Below w.heap.size w w1 := below_call (below1 _ _) hB1
  have va : VecAt w1 w.heap.size x y z := (vecAt_new w x y z _).kept (by simp) hB1
  clear hB1
  obtain ⟨ca0, ca1, ca2⟩ := va
  cases ha : rightB x y z
  · go_wp2_with fail
    go_ret
    exact ⟨by simp [smallB, ha], hB⟩
  · go_wp2_with fail
    refine (within_any 10 x y z _ (by omega) (by omega)).mono ?_
    rintro e w2 ⟨rfl, hB2⟩
    replace hB := below_call hB hB2
    go_wp2_with fail
    go_ret
    exact ⟨by simp [smallB, ha], hB⟩
set_option maxRecDepth 100000 in
theorem signed_any (n : Int) (w : World) :
    Calls Tryz.prog 117 #[.int .i64 n] w fun e w' => e = .returned (.int .i64 (ssqW n)) ∧ w' = w := by
  by_cases h : n < 0
  · have HS := hide (show ssqW n = wrap64 (wrap64 (-n) * n) by unfold ssqW; rw [if_pos h])
    go_enter Tryz.func117, Tryz.ntmps117
    go_wp2
    go_ret
    exact ⟨by rw [unhide HS]; rfl, rfl⟩
  · have HS := hide (show ssqW n = wrap64 (n * n) by unfold ssqW; rw [if_neg h])
    go_enter Tryz.func117, Tryz.ntmps117
    go_wp2
    go_ret
    exact ⟨by rw [unhide HS]; rfl, rfl⟩
set_option maxRecDepth 100000 in
theorem order_any (a b : Int) (w : World) :
    Calls Tryz.prog 115 #[.int .i64 a, .int .i64 b] w fun e w' => e = .returned (.int .i64 (ordI a b)) ∧ w' = w := by
  by_cases h : a < b
  · have HS := hide (show ordI a b = -1 by unfold ordI; rw [if_pos h])
    go_enter Tryz.func115, Tryz.ntmps115
    go_wp2
    go_ret
    exact ⟨by rw [unhide HS]; rfl, rfl⟩
  · by_cases h2 : b < a
    · have HS := hide (show ordI a b = 1 by unfold ordI; rw [if_neg h, if_pos h2])
      go_enter Tryz.func115, Tryz.ntmps115
      go_wp2
      go_ret
      exact ⟨by rw [unhide HS]; rfl, rfl⟩
    · have HS := hide (show ordI a b = 0 by unfold ordI; rw [if_neg h, if_neg h2])
      go_enter Tryz.func115, Tryz.ntmps115
      go_wp2
      go_ret
      exact ⟨by rw [unhide HS]; rfl, rfl⟩
set_option maxRecDepth 100000 in
theorem lengths_any (a1 a2 a3 b1 b2 b3 : Int) (w : World) :
    Calls Tryz.prog 118 #[.func (.func 119) #[.agg #[.int .i64 a1, .int .i64 a2, .int .i64 a3]] #[], .func (.func 119) #[.agg #[.int .i64 b1, .int .i64 b2, .int .i64 b3]] #[]] w fun e w' => e = .returned (.int .i64 (wrap64 (dotW a1 a2 a3 a1 a2 a3 * dotW b1 b2 b3 b1 b2 b3))) ∧ Below w.heap.size w w' := by
  go_enter Tryz.func118, Tryz.ntmps118
  go_wp2_with fail
  refine (square_any a1 a2 a3 _).mono ?_
  rintro e w1 ⟨rfl, hB1⟩
  go_wp2_with fail
  refine (square_any b1 b2 b3 _).mono ?_
  rintro e w2 ⟨rfl, hB2⟩
  go_wp2_with fail
  go_ret
  exact ⟨rfl, below_call hB1 hB2⟩
theorem wideB_iff {x y z : Int} (h : wideB x y z = true) : rightB x y z = true ∧ withinB 1800 x y z = true := by simpa [wideB] using h
theorem smallB_iff {x y z : Int} (h : smallB x y z = true) : rightB x y z = true ∧ withinB 10 x y z = true := by simpa [smallB] using h
theorem cos_eq {a1 a2 a3 b1 b2 b3 c1 c2 c3 d1 d2 d3 : Int} (ha : wideB a1 a2 a3 = true) (hb : wideB b1 b2 b3 = true) (hc : smallB c1 c2 c3 = true) (hd : smallB d1 d2 d3 = true) :
    cosI a1 a2 a3 b1 b2 b3 c1 c2 c3 d1 d2 d3 = ordI (wrap64 (ssqW (dotI a1 a2 a3 b1 b2 b3) * wrap64 (dotW c1 c2 c3 c1 c2 c3 * dotW d1 d2 d3 d1 d2 d3))) (wrap64 (ssqW (dotI c1 c2 c3 d1 d2 d3) * wrap64 (dotW a1 a2 a3 a1 a2 a3 * dotW b1 b2 b3 b1 b2 b3))) := by
  have h := cos_impl (wideB_iff ha).2 (wideB_iff hb).2 (smallB_iff hc).2 (smallB_iff hd).2
  unfold cosI dotI
  rw [(wideB_iff ha).1, (wideB_iff hb).1, (smallB_iff hc).1, (smallB_iff hd).1, ha, hb, hc, hd, if_pos (by rfl), if_pos (by rfl), if_pos (by rfl), h.1, h.2]
end Go.Proofs.YtjdehbpgdplolaaGreatDoor

namespace Go.Proofs.YtjdehbpgdplolaaGreatDoor
open Go.RowKit Go.Sort
set_option linter.unusedVariables false

theorem Calls.regrown_same {P : Program} {f : FuncId} {args : Array Value} {w : World} {d : Nat} {os : Array Obj} {v : Value}
    (h : Calls P f args (grow (redrawn w d) os) fun e w' => e = .returned v ∧ w' = grow (redrawn w d) os) : Calls P f args (grow (redrawn w d) os) fun e w'' => e = .returned v ∧ ∃ p : Regrown, w'' = grow (redrawn w p.d) p.os :=
  h.mono fun _ _ ⟨he, hm⟩ => ⟨he, ⟨d, os⟩, hm⟩

set_option maxHeartbeats 2000000 in
set_option maxRecDepth 100000 in
theorem cosCmp_any (a1 a2 a3 b1 b2 b3 c1 c2 c3 d1 d2 d3 : Int) (w : World) :
    Calls Tryz.prog 114 #[.agg #[.int .i64 a1, .int .i64 a2, .int .i64 a3], .agg #[.int .i64 b1, .int .i64 b2, .int .i64 b3], .agg #[.int .i64 c1, .int .i64 c2, .int .i64 c3], .agg #[.int .i64 d1, .int .i64 d2, .int .i64 d3]] w fun e w' => e = .returned (.int .i64 (cosI a1 a2 a3 b1 b2 b3 c1 c2 c3 d1 d2 d3)) ∧ Below w.heap.size w w' := by
  go_enter Tryz.func114, Tryz.ntmps114
  go_wp2_with fail
  refine (isWide_any a1 a2 a3 _).mono ?_
  rintro e w1 ⟨rfl, hB1⟩
  have hB : Below w.heap.size w w1 := below_call (below4 _ _ _ _ _) hB1
  have hs : w.heap.size + 4 ≤ w1.heap.size := by have := hB1.size; simpa [Nat.add_assoc] using this
  have va : VecAt w1 w.heap.size a1 a2 a3 := ((((by simpa using vecAt_new w a1 a2 a3 _ : VecAt _ w.heap.size a1 a2 a3).alloc (by simp <;> omega) _).alloc (by simp <;> omega) _).alloc (by simp <;> omega) _).kept (by simp <;> omega) hB1
  have vb : VecAt w1 (w.heap.size + 1) b1 b2 b3 := (((by simpa using vecAt_new (w.alloc _) b1 b2 b3 _ : VecAt _ (w.heap.size + 1) b1 b2 b3).alloc (by simp <;> omega) _).alloc (by simp <;> omega) _).kept (by simp <;> omega) hB1
  have vc : VecAt w1 (w.heap.size + 1 + 1) c1 c2 c3 := ((by simpa using vecAt_new ((w.alloc _).alloc _) c1 c2 c3 _ : VecAt _ (w.heap.size + 1 + 1) c1 c2 c3).alloc (by simp <;> omega) _).kept (by simp <;> omega) hB1
  have vd : VecAt w1 (w.heap.size + 1 + 1 + 1) d1 d2 d3 := (by simpa using vecAt_new (((w.alloc _).alloc _).alloc _) d1 d2 d3 _ : VecAt _ (w.heap.size + 1 + 1 + 1) d1 d2 d3).kept (by simp <;> omega) hB1
  clear hB1
  have hva := va
  obtain ⟨ca0, ca1, ca2⟩ := va
  have hvb := vb
  obtain ⟨cb0, cb1, cb2⟩ := vb
  have hvc := vc
  obtain ⟨cc0, cc1, cc2⟩ := vc
  have hvd := vd
  obtain ⟨cd0, cd1, cd2⟩ := vd
  cases ha : wideB a1 a2 a3
  · go_wp2_with fail
    go_ret
    exact ⟨by simp [cosI, ha], hB⟩
  · go_wp2_with fail
    refine (isWide_any b1 b2 b3 _).mono ?_
    rintro e w2 ⟨rfl, hB2⟩
    have va := hva.kept (by omega) hB2
    have vb := hvb.kept (by omega) hB2
    have vc := hvc.kept (by omega) hB2
    have vd := hvd.kept (by omega) hB2
    replace hs : w.heap.size + 4 ≤ w2.heap.size := by have := hB2.size; omega
    replace hB : Below w.heap.size w w2 := below_call hB hB2
    clear hva ca0 ca1 ca2 hvb cb0 cb1 cb2 hvc cc0 cc1 cc2 hvd cd0 cd1 cd2
    clear hB2
    have hva := va
    obtain ⟨ca0, ca1, ca2⟩ := va
    have hvb := vb
    obtain ⟨cb0, cb1, cb2⟩ := vb
    have hvc := vc
    obtain ⟨cc0, cc1, cc2⟩ := vc
    have hvd := vd
    obtain ⟨cd0, cd1, cd2⟩ := vd
    cases hb : wideB b1 b2 b3
    · go_wp2_with fail
      go_ret
      exact ⟨by simp [cosI, hb], hB⟩
    · go_wp2_with fail
      refine (isSmall_any c1 c2 c3 _).mono ?_
      rintro e w3 ⟨rfl, hB3⟩
      have va := hva.kept (by omega) hB3
      have vb := hvb.kept (by omega) hB3
      have vc := hvc.kept (by omega) hB3
      have vd := hvd.kept (by omega) hB3
      replace hs : w.heap.size + 4 ≤ w3.heap.size := by have := hB3.size; omega
      replace hB : Below w.heap.size w w3 := below_call hB hB3
      clear hva ca0 ca1 ca2 hvb cb0 cb1 cb2 hvc cc0 cc1 cc2 hvd cd0 cd1 cd2
      clear hB3
      have hva := va
      obtain ⟨ca0, ca1, ca2⟩ := va
      have hvb := vb
      obtain ⟨cb0, cb1, cb2⟩ := vb
      have hvc := vc
      obtain ⟨cc0, cc1, cc2⟩ := vc
      have hvd := vd
      obtain ⟨cd0, cd1, cd2⟩ := vd
      cases hc : smallB c1 c2 c3
      · go_wp2_with fail
        go_ret
        exact ⟨by simp [cosI, hc], hB⟩
      · go_wp2_with fail
        refine (isSmall_any d1 d2 d3 _).mono ?_
        rintro e w4 ⟨rfl, hB4⟩
        have va := hva.kept (by omega) hB4
        have vb := hvb.kept (by omega) hB4
        have vc := hvc.kept (by omega) hB4
        have vd := hvd.kept (by omega) hB4
        replace hs : w.heap.size + 4 ≤ w4.heap.size := by have := hB4.size; omega
        replace hB : Below w.heap.size w w4 := below_call hB hB4
        clear hva ca0 ca1 ca2 hvb cb0 cb1 cb2 hvc cc0 cc1 cc2 hvd cd0 cd1 cd2
        clear hB4
        have hva := va
        obtain ⟨ca0, ca1, ca2⟩ := va
        have hvb := vb
        obtain ⟨cb0, cb1, cb2⟩ := vb
        have hvc := vc
        obtain ⟨cc0, cc1, cc2⟩ := vc
        have hvd := vd
        obtain ⟨cd0, cd1, cd2⟩ := vd
        cases hd : smallB d1 d2 d3
        · go_wp2_with fail
          go_ret
          exact ⟨by simp [cosI, hd], hB⟩
        · go_wp2_with fail
          have HD := hide (cos_eq ha hb hc hd)
          have ka0 := cell_regrown ca0
          have ka1 := cell_regrown ca1
          have ka2 := cell_regrown ca2
          have kb0 := cell_regrown cb0
          have kb1 := cell_regrown cb1
          have kb2 := cell_regrown cb2
          have kc0 := cell_regrown cc0
          have kc1 := cell_regrown cc1
          have kc2 := cell_regrown cc2
          have kd0 := cell_regrown cd0
          have kd1 := cell_regrown cd1
          have kd2 := cell_regrown cd2
          refine wp_region_quiet_below (by kernel_rfl) (by kernel_rfl) ?_
          repeat (quiet_step (first | exact Calls.regrown_of (dot_any _ _ _ _ _ _ _) | exact Calls.regrown_same (signed_any _ _) | exact Calls.regrown_of (lengths_any _ _ _ _ _ _ _)))
          refine wpQuiet_nil ?_
          intro _ hw'
          obtain ⟨⟨dq, osq⟩, hw''⟩ := hw'
          subst hw''
          have hb' := below_regrown w4 dq osq
          replace hB := below_call hB hb'
          have va := hva.kept (by omega) hb'
          have vb := hvb.kept (by omega) hb'
          have vc := hvc.kept (by omega) hb'
          have vd := hvd.kept (by omega) hb'
          clear ca0 ka0 ca1 ka1 ca2 ka2 cb0 kb0 cb1 kb1 cb2 kb2 cc0 kc0 cc1 kc1 cc2 kc2 cd0 kd0 cd1 kd1 cd2 kd2
          generalize grow (redrawn w4 dq) osq = w5 at hB hb' va vb vc vd ⊢
          obtain ⟨ca0, ca1, ca2⟩ := va
          obtain ⟨cb0, cb1, cb2⟩ := vb
          obtain ⟨cc0, cc1, cc2⟩ := vc
          obtain ⟨cd0, cd1, cd2⟩ := vd
          clear hb' hva hvb hvc hvd
          go_wp2_with fail
          have ka0 := cell_regrown ca0
          have ka1 := cell_regrown ca1
          have ka2 := cell_regrown ca2
          have kb0 := cell_regrown cb0
          have kb1 := cell_regrown cb1
          have kb2 := cell_regrown cb2
          have kc0 := cell_regrown cc0
          have kc1 := cell_regrown cc1
          have kc2 := cell_regrown cc2
          have kd0 := cell_regrown cd0
          have kd1 := cell_regrown cd1
          have kd2 := cell_regrown cd2
          refine wp_region_quiet_below (by kernel_rfl) (by kernel_rfl) ?_
          repeat (quiet_step (first | exact Calls.regrown_of (dot_any _ _ _ _ _ _ _) | exact Calls.regrown_same (signed_any _ _) | exact Calls.regrown_of (lengths_any _ _ _ _ _ _ _)))
          refine wpQuiet_nil ?_
          intro _ hw'
          obtain ⟨⟨dq, osq⟩, hw''⟩ := hw'
          subst hw''
          replace hB := below_call hB (below_regrown w5 dq osq)
          clear ca0 ka0 ca1 ka1 ca2 ka2 cb0 kb0 cb1 kb1 cb2 kb2 cc0 kc0 cc1 kc1 cc2 kc2 cd0 kd0 cd1 kd1 cd2 kd2
          go_wp2_with fail
          refine (order_any _ _ _).mono ?_
          rintro e w7 ⟨rfl, rfl⟩
          go_wp2_with fail
          go_ret
          exact ⟨by rw [unhide HD]; rfl, hB⟩
end Go.Proofs.YtjdehbpgdplolaaGreatDoor

namespace Go.Proofs.YtjdehbpgdplolaaGreatDoor
open Go.RowKit Go.Sort
set_option linter.unusedVariables false

theorem VecAt.in {w : World} {b : Nat} {x y z : Int} (h : VecAt w b x y z) : b < w.heap.size := World.block_lt_of_cell? w _ h.1
set_option maxRecDepth 100000 in
theorem l02Sign_any (n : Int) (w : World) :
    Calls Tryz.prog 101 #[.int .i64 n] w fun e w' => e = .returned (.int .i64 (sgn n)) ∧ w' = w := by
  by_cases h : n < 0
  · have HS := hide (show sgn n = -1 by unfold sgn; rw [if_pos h])
    go_enter Tryz.func101, Tryz.ntmps101
    go_wp2
    go_ret
    exact ⟨by rw [unhide HS]; rfl, rfl⟩
  · by_cases h2 : 0 < n
    · have HS := hide (show sgn n = 1 by unfold sgn; rw [if_neg h, if_pos h2])
      go_enter Tryz.func101, Tryz.ntmps101
      go_wp2
      go_ret
      exact ⟨by rw [unhide HS]; rfl, rfl⟩
    · have HS := hide (show sgn n = 0 by unfold sgn; rw [if_neg h, if_neg h2])
      go_enter Tryz.func101, Tryz.ntmps101
      go_wp2
      go_ret
      exact ⟨by rw [unhide HS]; rfl, rfl⟩

set_option maxRecDepth 100000 in
theorem l02Cos_any (a1 a2 a3 b1 b2 b3 c1 c2 c3 d1 d2 d3 : Int) (w : World) :
    Calls Tryz.prog 100 #[.agg #[.int .i64 a1, .int .i64 a2, .int .i64 a3], .agg #[.int .i64 b1, .int .i64 b2, .int .i64 b3], .agg #[.int .i64 c1, .int .i64 c2, .int .i64 c3], .agg #[.int .i64 d1, .int .i64 d2, .int .i64 d3]] w fun e w' => e = .returned (.int .i64 (cosS (dotW a1 a2 a3 b1 b2 b3) (dotW c1 c2 c3 d1 d2 d3) (wrap64 (wrap64 (dotW a1 a2 a3 b1 b2 b3 * dotW a1 a2 a3 b1 b2 b3) * wrap64 (dotW c1 c2 c3 c1 c2 c3 * dotW d1 d2 d3 d1 d2 d3))) (wrap64 (wrap64 (dotW c1 c2 c3 d1 d2 d3 * dotW c1 c2 c3 d1 d2 d3) * wrap64 (dotW a1 a2 a3 a1 a2 a3 * dotW b1 b2 b3 b1 b2 b3))))) ∧ Below w.heap.size w w' := by
  go_enter Tryz.func100, Tryz.ntmps100
  go_wp2_with fail
  have va : VecAt ((((w.alloc (.cells #[.int .i64 a1, .int .i64 a2, .int .i64 a3] 54)).alloc (.cells #[.int .i64 b1, .int .i64 b2, .int .i64 b3] 54)).alloc (.cells #[.int .i64 c1, .int .i64 c2, .int .i64 c3] 54)).alloc (.cells #[.int .i64 d1, .int .i64 d2, .int .i64 d3] 54)) w.heap.size a1 a2 a3 := ((((by simpa using vecAt_new w a1 a2 a3 54 : VecAt (w.alloc (.cells #[.int .i64 a1, .int .i64 a2, .int .i64 a3] 54)) w.heap.size a1 a2 a3).alloc (by simp <;> omega) _).alloc (by simp <;> omega) _).alloc (by simp <;> omega) _)
  have vb : VecAt ((((w.alloc (.cells #[.int .i64 a1, .int .i64 a2, .int .i64 a3] 54)).alloc (.cells #[.int .i64 b1, .int .i64 b2, .int .i64 b3] 54)).alloc (.cells #[.int .i64 c1, .int .i64 c2, .int .i64 c3] 54)).alloc (.cells #[.int .i64 d1, .int .i64 d2, .int .i64 d3] 54)) (w.heap.size + 1) b1 b2 b3 := (((by simpa using vecAt_new (w.alloc (.cells #[.int .i64 a1, .int .i64 a2, .int .i64 a3] 54)) b1 b2 b3 54 : VecAt ((w.alloc (.cells #[.int .i64 a1, .int .i64 a2, .int .i64 a3] 54)).alloc (.cells #[.int .i64 b1, .int .i64 b2, .int .i64 b3] 54)) (w.heap.size + 1) b1 b2 b3).alloc (by simp <;> omega) _).alloc (by simp <;> omega) _)
  have vc : VecAt ((((w.alloc (.cells #[.int .i64 a1, .int .i64 a2, .int .i64 a3] 54)).alloc (.cells #[.int .i64 b1, .int .i64 b2, .int .i64 b3] 54)).alloc (.cells #[.int .i64 c1, .int .i64 c2, .int .i64 c3] 54)).alloc (.cells #[.int .i64 d1, .int .i64 d2, .int .i64 d3] 54)) (w.heap.size + 1 + 1) c1 c2 c3 := ((by simpa using vecAt_new ((w.alloc (.cells #[.int .i64 a1, .int .i64 a2, .int .i64 a3] 54)).alloc (.cells #[.int .i64 b1, .int .i64 b2, .int .i64 b3] 54)) c1 c2 c3 54 : VecAt (((w.alloc (.cells #[.int .i64 a1, .int .i64 a2, .int .i64 a3] 54)).alloc (.cells #[.int .i64 b1, .int .i64 b2, .int .i64 b3] 54)).alloc (.cells #[.int .i64 c1, .int .i64 c2, .int .i64 c3] 54)) (w.heap.size + 1 + 1) c1 c2 c3).alloc (by simp <;> omega) _)
  have vd : VecAt ((((w.alloc (.cells #[.int .i64 a1, .int .i64 a2, .int .i64 a3] 54)).alloc (.cells #[.int .i64 b1, .int .i64 b2, .int .i64 b3] 54)).alloc (.cells #[.int .i64 c1, .int .i64 c2, .int .i64 c3] 54)).alloc (.cells #[.int .i64 d1, .int .i64 d2, .int .i64 d3] 54)) (w.heap.size + 1 + 1 + 1) d1 d2 d3 := (by simpa using vecAt_new (((w.alloc (.cells #[.int .i64 a1, .int .i64 a2, .int .i64 a3] 54)).alloc (.cells #[.int .i64 b1, .int .i64 b2, .int .i64 b3] 54)).alloc (.cells #[.int .i64 c1, .int .i64 c2, .int .i64 c3] 54)) d1 d2 d3 54 : VecAt ((((w.alloc (.cells #[.int .i64 a1, .int .i64 a2, .int .i64 a3] 54)).alloc (.cells #[.int .i64 b1, .int .i64 b2, .int .i64 b3] 54)).alloc (.cells #[.int .i64 c1, .int .i64 c2, .int .i64 c3] 54)).alloc (.cells #[.int .i64 d1, .int .i64 d2, .int .i64 d3] 54)) (w.heap.size + 1 + 1 + 1) d1 d2 d3)
  have hB : Below w.heap.size w ((((w.alloc (.cells #[.int .i64 a1, .int .i64 a2, .int .i64 a3] 54)).alloc (.cells #[.int .i64 b1, .int .i64 b2, .int .i64 b3] 54)).alloc (.cells #[.int .i64 c1, .int .i64 c2, .int .i64 c3] 54)).alloc (.cells #[.int .i64 d1, .int .i64 d2, .int .i64 d3] 54)) := below4 _ _ _ _ _
  generalize ((((w.alloc (.cells #[.int .i64 a1, .int .i64 a2, .int .i64 a3] 54)).alloc (.cells #[.int .i64 b1, .int .i64 b2, .int .i64 b3] 54)).alloc (.cells #[.int .i64 c1, .int .i64 c2, .int .i64 c3] 54)).alloc (.cells #[.int .i64 d1, .int .i64 d2, .int .i64 d3] 54)) = w1 at va vb vc vd hB ⊢
  have ha := va
  have hb := vb
  have hc := vc
  have hd := vd
  obtain ⟨ca0, ca1, ca2⟩ := va
  obtain ⟨cb0, cb1, cb2⟩ := vb
  obtain ⟨cc0, cc1, cc2⟩ := vc
  obtain ⟨cd0, cd1, cd2⟩ := vd
  refine (l02Dot_any a1 a2 a3 b1 b2 b3 _).mono ?_
  rintro e w2 ⟨rfl, hx⟩
  have va := ha.kept (VecAt.in ha) hx
  have vb := hb.kept (VecAt.in hb) hx
  have vc := hc.kept (VecAt.in hc) hx
  have vd := hd.kept (VecAt.in hd) hx
  replace hB := below_call hB hx
  clear ca0 ca1 ca2 cb0 cb1 cb2 cc0 cc1 cc2 cd0 cd1 cd2 ha hb hc hd hx
  have ha := va
  have hb := vb
  have hc := vc
  have hd := vd
  obtain ⟨ca0, ca1, ca2⟩ := va
  obtain ⟨cb0, cb1, cb2⟩ := vb
  obtain ⟨cc0, cc1, cc2⟩ := vc
  obtain ⟨cd0, cd1, cd2⟩ := vd
  go_wp2_with fail
  refine (l02Dot_any c1 c2 c3 d1 d2 d3 _).mono ?_
  rintro e w3 ⟨rfl, hx⟩
  have va := ha.kept (VecAt.in ha) hx
  have vb := hb.kept (VecAt.in hb) hx
  have vc := hc.kept (VecAt.in hc) hx
  have vd := hd.kept (VecAt.in hd) hx
  replace hB := below_call hB hx
  clear ca0 ca1 ca2 cb0 cb1 cb2 cc0 cc1 cc2 cd0 cd1 cd2 ha hb hc hd hx
  have ha := va
  have hb := vb
  have hc := vc
  have hd := vd
  obtain ⟨ca0, ca1, ca2⟩ := va
  obtain ⟨cb0, cb1, cb2⟩ := vb
  obtain ⟨cc0, cc1, cc2⟩ := vc
  obtain ⟨cd0, cd1, cd2⟩ := vd
  generalize hxe : dotW a1 a2 a3 b1 b2 b3 = x
  generalize hye : dotW c1 c2 c3 d1 d2 d3 = y
  have HX := hide hxe
  have HY := hide hye
  clear hxe hye
  go_wp2_with fail
  refine (l02Sign_any x _).mono ?_
  rintro e w3 ⟨rfl, rfl⟩
  go_wp2_with fail
  refine (l02Sign_any y _).mono ?_
  rintro e w3 ⟨rfl, rfl⟩
  by_cases hs : sgn x = sgn y
  · have hse : (sgn x == sgn y) = true := by simp [hs]
    go_wp2_with fail
    have kc0 := cell_regrown cc0
    have kc1 := cell_regrown cc1
    have kc2 := cell_regrown cc2
    have kd0 := cell_regrown cd0
    have kd1 := cell_regrown cd1
    have kd2 := cell_regrown cd2
    refine wp_region_quiet_below (by kernel_rfl) (by kernel_rfl) ?_
    repeat (quiet_step (first | exact Calls.regrown_of (l02Dot_any _ _ _ _ _ _ _) | fail))
    refine wpQuiet_nil ?_
    intro _ hw'
    obtain ⟨⟨dq, osq⟩, hw''⟩ := hw'
    subst hw''
    have hx := below_regrown w3 dq osq
    generalize grow (redrawn w3 dq) osq = w4 at hx ⊢
    clear kc0 kc1 kc2 kd0 kd1 kd2
    have va := ha.kept (VecAt.in ha) hx
    have vb := hb.kept (VecAt.in hb) hx
    have vc := hc.kept (VecAt.in hc) hx
    have vd := hd.kept (VecAt.in hd) hx
    replace hB := below_call hB hx
    clear ca0 ca1 ca2 cb0 cb1 cb2 cc0 cc1 cc2 cd0 cd1 cd2 ha hb hc hd hx
    have ha := va
    have hb := vb
    have hc := vc
    have hd := vd
    obtain ⟨ca0, ca1, ca2⟩ := va
    obtain ⟨cb0, cb1, cb2⟩ := vb
    obtain ⟨cc0, cc1, cc2⟩ := vc
    obtain ⟨cd0, cd1, cd2⟩ := vd
    go_wp2_with fail
    have ka0 := cell_regrown ca0
    have ka1 := cell_regrown ca1
    have ka2 := cell_regrown ca2
    have kb0 := cell_regrown cb0
    have kb1 := cell_regrown cb1
    have kb2 := cell_regrown cb2
    refine wp_region_quiet_below (by kernel_rfl) (by kernel_rfl) ?_
    repeat (quiet_step (first | exact Calls.regrown_of (l02Dot_any _ _ _ _ _ _ _) | fail))
    refine wpQuiet_nil ?_
    intro _ hw'
    obtain ⟨⟨dq, osq⟩, hw''⟩ := hw'
    subst hw''
    have hx := below_regrown w4 dq osq
    generalize grow (redrawn w4 dq) osq = w5 at hx ⊢
    clear ka0 ka1 ka2 kb0 kb1 kb2
    have va := ha.kept (VecAt.in ha) hx
    have vb := hb.kept (VecAt.in hb) hx
    have vc := hc.kept (VecAt.in hc) hx
    have vd := hd.kept (VecAt.in hd) hx
    replace hB := below_call hB hx
    clear ca0 ca1 ca2 cb0 cb1 cb2 cc0 cc1 cc2 cd0 cd1 cd2 ha hb hc hd hx
    have ha := va
    have hb := vb
    have hc := vc
    have hd := vd
    obtain ⟨ca0, ca1, ca2⟩ := va
    obtain ⟨cb0, cb1, cb2⟩ := vb
    obtain ⟨cc0, cc1, cc2⟩ := vc
    obtain ⟨cd0, cd1, cd2⟩ := vd
    clear ha hb hc hd ca0 ca1 ca2 cb0 cb1 cb2 cc0 cc1 cc2 cd0 cd1 cd2
    simp only [Go.IntWalk.i64_left]
    generalize hpe : wrap64 (wrap64 (x * x) * wrap64 (dotW c1 c2 c3 c1 c2 c3 * dotW d1 d2 d3 d1 d2 d3)) = p
    generalize hqe : wrap64 (wrap64 (y * y) * wrap64 (dotW a1 a2 a3 a1 a2 a3 * dotW b1 b2 b3 b1 b2 b3)) = q
    have HP := hide hpe
    have HQ := hide hqe
    have HS := hide hs
    clear hpe hqe
    by_cases h1 : p < q
    · have HE := hide (show cosS x y p q = wrap64 (-sgn x) by unfold cosS; rw [if_neg (by simp [hs]), if_pos h1])
      clear hs hse
      go_wp2_with fail
      refine (l02Sign_any x _).mono ?_
      rintro e w5 ⟨rfl, rfl⟩
      go_wp2_with fail
      go_ret
      exact ⟨by rw [unhide HX, unhide HY, unhide HP, unhide HQ, unhide HE]; rfl, hB⟩
    · by_cases h2 : q < p
      · have HE := hide (show cosS x y p q = sgn x by unfold cosS; rw [if_neg (by simp [hs]), if_neg h1, if_pos h2])
        clear hs hse
        go_wp2_with fail
        refine (l02Sign_any x _).mono ?_
        rintro e w5 ⟨rfl, rfl⟩
        go_wp2_with fail
        go_ret
        exact ⟨by rw [unhide HX, unhide HY, unhide HP, unhide HQ, unhide HE]; rfl, hB⟩
      · have HE := hide (show cosS x y p q = 0 by unfold cosS; rw [if_neg (by simp [hs]), if_neg h1, if_neg h2])
        clear hs hse
        go_wp2_with fail
        go_ret
        exact ⟨by rw [unhide HX, unhide HY, unhide HP, unhide HQ, unhide HE]; rfl, hB⟩
  · have hse : (sgn x == sgn y) = false := by simp [hs]
    go_wp2_with fail
    refine (l02Sign_any x _).mono ?_
    rintro e w3 ⟨rfl, rfl⟩
    go_wp2_with fail
    refine (l02Sign_any y _).mono ?_
    rintro e w3 ⟨rfl, rfl⟩
    go_wp2_with fail
    refine (l02Sign_any _ _).mono ?_
    rintro e w3 ⟨rfl, rfl⟩
    go_wp2_with fail
    go_ret
    exact ⟨by unfold cosS; rw [unhide HX, unhide HY, if_pos hs]; rfl, hB⟩
end Go.Proofs.YtjdehbpgdplolaaGreatDoor

namespace Go.Proofs.YtjdehbpgdplolaaGreatDoor
open Go.RowKit Go.Sort
set_option linter.unusedVariables false

theorem sq_fits {p q r P Q : Int} (h1 : -P ≤ p ∧ p ≤ P) (h2 : -Q ≤ q ∧ q ≤ Q) (h3 : -Q ≤ r ∧ r ≤ Q) (k1 : P * P ≤ 9223372036854775807) (k3 : Q * Q ≤ 9223372036854775807) (k4 : (P * P) * (Q * Q) ≤ 9223372036854775807) :
    wrap64 (wrap64 (p * p) * wrap64 (q * r)) = p * p * (q * r) := by
  have m1 := mulB h1 h1
  have m2 := mulB h2 h3
  have m3 := mulB m1 m2
  rw [wrap_id (n := p * p) (by omega) (by omega), wrap_id (n := q * r) (by omega) (by omega), wrap_id (by omega) (by omega)]
theorem cos_eq2 {a1 a2 a3 b1 b2 b3 c1 c2 c3 d1 d2 d3 : Int} (ha : wideB a1 a2 a3 = true) (hb : wideB b1 b2 b3 = true) (hc : smallB c1 c2 c3 = true) (hd : smallB d1 d2 d3 = true) :
    cosI a1 a2 a3 b1 b2 b3 c1 c2 c3 d1 d2 d3 = cosS (dotW a1 a2 a3 b1 b2 b3) (dotW c1 c2 c3 d1 d2 d3) (wrap64 (wrap64 (dotW a1 a2 a3 b1 b2 b3 * dotW a1 a2 a3 b1 b2 b3) * wrap64 (dotW c1 c2 c3 c1 c2 c3 * dotW d1 d2 d3 d1 d2 d3))) (wrap64 (wrap64 (dotW c1 c2 c3 d1 d2 d3 * dotW c1 c2 c3 d1 d2 d3) * wrap64 (dotW a1 a2 a3 a1 a2 a3 * dotW b1 b2 b3 b1 b2 b3))) := by
  have wa := (wideB_iff ha).2
  have wb := (wideB_iff hb).2
  have wc := (smallB_iff hc).2
  have wd := (smallB_iff hd).2
  have pa := sq_pos (rightB_iff.1 (wideB_iff ha).1).2
  have pb := sq_pos (rightB_iff.1 (wideB_iff hb).1).2
  have pc := sq_pos (rightB_iff.1 (smallB_iff hc).1).2
  have pd := sq_pos (rightB_iff.1 (smallB_iff hd).1).2
  unfold cosI
  rw [ha, hb, hc, hd, if_pos (by rfl)]
  rw [dotW_eq wa wb (by omega), dotW_eq wc wc (by omega), dotW_eq wd wd (by omega), dotW_eq wc wd (by omega), dotW_eq wa wa (by omega), dotW_eq wb wb (by omega)]
  have x1 := dot_bound wa wb
  have x2 := dot_bound wc wc
  have x3 := dot_bound wd wd
  have x4 := dot_bound wc wd
  have x5 := dot_bound wa wa
  have x6 := dot_bound wb wb
  rw [sq_fits (P := 9720000) (Q := 300) (by omega) (by omega) (by omega) (by omega) (by omega) (by omega), sq_fits (P := 300) (Q := 9720000) (by omega) (by omega) (by omega) (by omega) (by omega) (by omega)]
  exact (cos_spec (Int.mul_pos pc pd) (Int.mul_pos pa pb)).symm

end Go.Proofs.YtjdehbpgdplolaaGreatDoor

namespace Go.Proofs.YtjdehbpgdplolaaGreatDoor
open Go.RowKit Go.Extern.Stop Go.Stop Go.Extern
set_option linter.unusedVariables false

theorem isTypeOf (v : Value) (w : World) : (Extern.ReflectliteType.typeOf #[.iface 170 v]).run Tryz.prog w = .ok (.iface 143 (.agg #[.pointer (some ⟨1, 170, none⟩)])) w := by kernel_rfl
theorem isComparable (w : World) : (callFunc 140 #[.agg #[.pointer (some ⟨1, 170, none⟩)]]).run Tryz.prog w = .ok (Next.value (.bool true)) w :=
  (@run_callFunc_extern Tryz.prog 140 _ (Extern.ReflectliteType.method fun t => do Extern.Rtype.noPackHeld "Comparable" t; pure (.bool (← typeInfo t).comparable)) Tryz.func140 (by kernel_rfl) (by kernel_rfl) (by kernel_rfl) (by kernel_rfl) _ w).trans (by kernel_rfl)
theorem isMethodComparable (v : Value) (w : World) : (Go.method 308 143 v "Comparable").run Tryz.prog w = .ok (140, v) w := by kernel_rfl
theorem isComp : (Tryz.prog.info? 170).map (·.comparable) = some true := by kernel_rfl
theorem isSize : (Tryz.prog.info? 196).map (·.size) = some 1 := by kernel_rfl
theorem noIsW (v : Value) (xT : TypeId) (w : World) : (Instr.typeAssert (.iface 125 v) xT 145 true).run Tryz.prog w = .ok (.tuple #[.nilIface, .bool false]) w := run_typeAssert_lacksB Tryz.underlying145 (by kernel_rfl) (by kernel_rfl) v xT w
theorem hasUnwrapW (v : Value) (xT : TypeId) (w : World) : (Instr.typeAssert (.iface 125 v) xT 148 true).run Tryz.prog w = .ok (.tuple #[.iface 125 v, .bool true]) w := run_typeAssert_hasB Tryz.underlying148 (by kernel_rfl) v xT w
theorem methodUnwrap (v : Value) (w : World) : (Go.method 308 125 v "Unwrap").run Tryz.prog w = .ok (136, v) w := by kernel_rfl

/-- the program's errNoSky holds a pointer to an errors.errorString -/
def ErrSky (b : Addr) (w : World) : Prop := w.cell? ⟨0, 0, none⟩ = some (.iface 170 (.pointer (some b)))
theorem ErrSky.lt {b : Addr} {w : World} (h : ErrSky b w) : 0 < w.heap.size := World.block_lt_of_cell? w _ h
theorem ErrSky.kept {b : Addr} {w w' : World} (h : ErrSky b w) (hB : Below w.heap.size w w') : ErrSky b w' := by
  unfold ErrSky
  rw [hB.cell (p := ⟨0, 0, none⟩) h.lt]
  exact h

theorem is_nil (b : Addr) (w : World) :
    Calls Tryz.prog 70 #[.nilIface, .iface 170 (.pointer (some b))] w fun e w' => e = .returned (.bool false) ∧ w' = w := by
  have hn := run_eql_iface_nil_left (P := Tryz.prog) w 170 (.pointer (some b)) Tryz.underlying111
  go_enter Tryz.func70, Tryz.ntmps70
  go_wp2
  go_ret
  exact ⟨rfl, rfl⟩

theorem unwrap_any (why : ByteArray) (b : Addr) (w : World) (h : ErrSky b w) :
    Calls Tryz.prog 136 #[.agg #[.string why]] w fun e w' => e = .returned (.iface 170 (.pointer (some b))) ∧ Below w.heap.size w w' := by
  have h' : ErrSky b (w.alloc (.cells #[.string why] 125)) := h.kept (below1 _ _)
  unfold ErrSky at h'
  go_enter Tryz.func136, Tryz.ntmps136
  go_wp2
  go_ret
  exact ⟨rfl, below1 _ _⟩

set_option maxHeartbeats 1000000 in
theorem is_fault (why : ByteArray) (b : Addr) (w : World) (h : ErrSky b w) :
    Calls Tryz.prog 70 #[.iface 125 (.agg #[.string why]), .iface 170 (.pointer (some b))] w fun e w' => e = .returned (.bool true) ∧ Below w.heap.size w w' := by
  obtain ⟨i, hi, hcmp⟩ := Option.map_eq_some_iff.1 isComp
  obtain ⟨j, hj, hjs⟩ := Option.map_eq_some_iff.1 isSize
  have h8 := @run_callFunc_extern Tryz.prog 85 _ Extern.ReflectliteType.typeOf Tryz.func85 (by kernel_rfl) (by kernel_rfl) (by kernel_rfl) (by kernel_rfl)
  have tT := isTypeOf
  have cT := isComparable
  have mR := isMethodComparable
  have nW := noIsW
  have uW := hasUnwrapW
  have mU := methodUnwrap
  have heq := fun w => run_eql_iface_ptr_same (P := Tryz.prog) w b Tryz.underlying111 Tryz.underlying170 hi hcmp hj
  have hty := fun w => run_eql_iface_types (P := Tryz.prog) 125 170 (.agg #[.string why]) (.pointer (some b)) Tryz.underlying111 (by decide) w
  have HE := hide h
  clear h
  go_enter Tryz.func70, Tryz.ntmps70
  go_wp2
  refine wp_loop_rounds 2 ?_
  rw [rounds_succ]
  go_wp2_with (go_at_call 136; refine (unwrap_any why b _ (unhide HE)).mono ?_; rintro e w1 ⟨rfl, hx⟩)
  rw [rounds_succ]
  go_wp2
  go_ret
  exact ⟨rfl, hx⟩
end Go.Proofs.YtjdehbpgdplolaaGreatDoor

namespace Go.Proofs.YtjdehbpgdplolaaGreatDoor
open Go.RowKit
set_option linter.unusedVariables false

theorem rem_fits {a b : Int} (h : b ≠ 0) (hb : -1000000 ≤ b ∧ b ≤ 1000000) : wrap64 (a.tmod b) = a.tmod b ∧ -1000000 ≤ a.tmod b ∧ a.tmod b ≤ 1000000 := by
  have := tmod_lt a b h
  have h2 : -1000000 ≤ a.tmod b ∧ a.tmod b ≤ 1000000 := by omega
  exact ⟨wrap_id (by omega) (by omega), h2⟩

theorem below_drewN (w : World) (n : Nat) : Below w.heap.size w (w.drewN n) := ⟨rfl, rfl, rfl, Nat.le_refl _, fun _ _ => rfl⟩

set_option maxRecDepth 100000 in
theorem shared_any (a b : Int) (w : World) (ha : -1000000 ≤ a ∧ a ≤ 1000000) (hb : -1000000 ≤ b ∧ b ≤ 1000000) :
    Calls Tryz.prog 89 #[.int .i64 a, .int .i64 b] w fun e w' => e = .returned (.int .i64 ((Int.gcd a b : Nat) : Int)) ∧ ∃ n, w' = w.drewN n := by
  go_enter Tryz.func89, Tryz.ntmps89
  go_wp2
  go_loopw [0, 1] (fun u v wr => ∃ p q : Int, u = .int .i64 p ∧ v = .int .i64 q ∧ Hid (-1000000 ≤ p ∧ p ≤ 1000000) ∧ Hid (-1000000 ≤ q ∧ q ≤ 1000000) ∧ Hid (Int.gcd p q = Int.gcd a b) ∧ ∃ n, wr = w.drewN n) (fun _ v _ => (intOf v).natAbs)
  case atStart => exact ⟨a, b, rfl, rfl, hide ha, hide hb, hide rfl, 0, rfl⟩
  case round =>
    obtain ⟨p, q, rfl, rfl, hp, hq, hg, nd, rfl⟩ := hrel
    by_cases h0 : q = 0
    · subst h0
      have HG := hide (gcd_zero p)
      by_cases hn : p < 0
      · have HW : Hid (wrap64 (-p) = -p) := hide (by have := unhide hp; exact wrap_id (by omega) (by omega))
        have HR := hide (show ((Int.gcd a b : Nat) : Int) = -p by rw [← unhide hg, unhide HG, if_pos hn])
        go_wp2
        go_ret
        exact ⟨by rw [unhide HR]; exact congrArg (fun x => Ending.returned (Value.int .i64 x)) (unhide HW), nd, rfl⟩
      · have HR := hide (show ((Int.gcd a b : Nat) : Int) = p by rw [← unhide hg, unhide HG, if_neg hn])
        go_wp2
        go_ret
        exact ⟨by rw [unhide HR]; rfl, nd, rfl⟩
    · have hz : (q == 0) = false := by simp [h0]
      have hr := rem_fits (a := p) h0 (unhide hq)
      have HL := hide (tmod_lt p q h0)
      have HS := hide (gcd_step p q)
      obtain ⟨r, hre⟩ : ∃ r, p.tmod q = r := ⟨_, rfl⟩
      have hrw := hr.1
      have HRB := hide hr.2
      rw [hre] at hrw HRB HL HS
      clear hr
      go_wp2
      go_region
      go_wp2
      go_roundw
      case rel => exact ⟨q, r, rfl, rfl, hq, HRB, hide ((unhide HS).trans (unhide hg)), nd + 1, rfl⟩
      case measure => simp [intOf]; exact unhide HL

set_option maxRecDepth 100000 in
theorem l02Gcd_any (a b : Int) (w : World) (ha : -1000000 ≤ a ∧ a ≤ 1000000) (hb : -1000000 ≤ b ∧ b ≤ 1000000) :
    Calls Tryz.prog 82 #[.int .i64 a, .int .i64 b] w fun e w' => e = .returned (.int .i64 ((Int.gcd a b : Nat) : Int)) ∧ ∃ n, w' = w.drewN n := by
  go_enter Tryz.func82, Tryz.ntmps82
  go_wp2
  go_loopw [0, 1] (fun u v wr => ∃ p q : Int, u = .int .i64 p ∧ v = .int .i64 q ∧ Hid (-1000000 ≤ p ∧ p ≤ 1000000) ∧ Hid (-1000000 ≤ q ∧ q ≤ 1000000) ∧ Hid (Int.gcd p q = Int.gcd a b) ∧ ∃ n, wr = w.drewN n) (fun _ v _ => (intOf v).natAbs)
  case atStart => exact ⟨a, b, rfl, rfl, hide ha, hide hb, hide rfl, 0, rfl⟩
  case round =>
    obtain ⟨p, q, rfl, rfl, hp, hq, hg, nd, rfl⟩ := hrel
    by_cases h0 : q = 0
    · subst h0
      have HG := hide (gcd_zero p)
      by_cases hn : p < 0
      · have HW : Hid (wrap64 (-p) = -p) := hide (by have := unhide hp; exact wrap_id (by omega) (by omega))
        have HR := hide (show ((Int.gcd a b : Nat) : Int) = -p by rw [← unhide hg, unhide HG, if_pos hn])
        go_wp2
        go_ret
        exact ⟨by rw [unhide HR]; exact congrArg (fun x => Ending.returned (Value.int .i64 x)) (unhide HW), nd, rfl⟩
      · have HR := hide (show ((Int.gcd a b : Nat) : Int) = p by rw [← unhide hg, unhide HG, if_neg hn])
        go_wp2
        go_ret
        exact ⟨by rw [unhide HR]; rfl, nd, rfl⟩
    · have hz : (q == 0) = false := by simp [h0]
      have hr := rem_fits (a := p) h0 (unhide hq)
      have HL := hide (tmod_lt p q h0)
      have HS := hide (gcd_step p q)
      obtain ⟨r, hre⟩ : ∃ r, p.tmod q = r := ⟨_, rfl⟩
      have hrw := hr.1
      have HRB := hide hr.2
      rw [hre] at hrw HRB HL HS
      clear hr
      go_wp2
      go_roundw
      case rel => exact ⟨q, r, rfl, rfl, hq, HRB, hide ((unhide HS).trans (unhide hg)), nd, rfl⟩
      case measure => simp [intOf]; exact unhide HL

set_option maxRecDepth 100000 in
theorem l02Prime_any (x y z : Int) (w : World) (hr : rightB x y z = true) :
    Calls Tryz.prog 60 #[.agg #[.int .i64 x, .int .i64 y, .int .i64 z]] w fun e w' => e = .returned (.agg #[.int .i64 (wrap64 (x.tdiv (gI x y z))), .int .i64 (wrap64 (y.tdiv (gI x y z))), .int .i64 (wrap64 (z.tdiv (gI x y z)))]) ∧ Below w.heap.size w w' := by
  obtain ⟨⟨hx, hy, hz⟩, _⟩ := rightB_iff.1 hr
  have hg1 := gcd_le hx hy
  have hpos := gI_pos hr
  go_enter Tryz.func60, Tryz.ntmps60
  go_wp2_with fail
  go_quiet (first | (go_at_call_of 82 (Value.int IntKind.i64 x); refine Calls.quiet_of (l02Gcd_any x y _ hx hy)) | (go_at_call 82; refine Calls.quiet_of (l02Gcd_any _ z _ ?_ hz); omega))
  have hz0 : (gI x y z == 0) = false := by simp; omega
  have hgi : ((Int.gcd ((Int.gcd x y : Nat) : Int) z : Nat) : Int) = gI x y z := rfl
  rw [hgi]
  clear hgi
  generalize hge : gI x y z = g at hpos hz0 ⊢
  have HG := hide hge
  clear hge
  have va : VecAt (((w.alloc (.cells #[.int .i64 x, .int .i64 y, .int .i64 z] 54)).alloc (.cells #[.int .i64 0, .int .i64 0, .int .i64 0] 54)).drewN nq) w.heap.size x y z := ((vecAt_new w x y z _).alloc (by simp) _)
  have vr : VecAt (((w.alloc (.cells #[.int .i64 x, .int .i64 y, .int .i64 z] 54)).alloc (.cells #[.int .i64 0, .int .i64 0, .int .i64 0] 54)).drewN nq) (w.heap.size + 1) 0 0 0 := (by simpa using vecAt_new (w.alloc (.cells #[.int .i64 x, .int .i64 y, .int .i64 z] 54)) 0 0 0 54 : VecAt ((w.alloc (.cells #[.int .i64 x, .int .i64 y, .int .i64 z] 54)).alloc (.cells #[.int .i64 0, .int .i64 0, .int .i64 0] 54)) (w.heap.size + 1) 0 0 0)
  have fr : FreeAt (((w.alloc (.cells #[.int .i64 x, .int .i64 y, .int .i64 z] 54)).alloc (.cells #[.int .i64 0, .int .i64 0, .int .i64 0] 54)).drewN nq) (w.heap.size + 1) := (by simpa using freeAt_new (w.alloc (.cells #[.int .i64 x, .int .i64 y, .int .i64 z] 54)) 0 0 0 54 : FreeAt ((w.alloc (.cells #[.int .i64 x, .int .i64 y, .int .i64 z] 54)).alloc (.cells #[.int .i64 0, .int .i64 0, .int .i64 0] 54)) (w.heap.size + 1))
  have hB : Below w.heap.size w (((w.alloc (.cells #[.int .i64 x, .int .i64 y, .int .i64 z] 54)).alloc (.cells #[.int .i64 0, .int .i64 0, .int .i64 0] 54)).drewN nq) := below_call (below2 _ _ _) (below_drewN _ _)
  generalize ((w.alloc (.cells #[.int .i64 x, .int .i64 y, .int .i64 z] 54)).alloc (.cells #[.int .i64 0, .int .i64 0, .int .i64 0] 54)).drewN nq = w1 at va vr fr hB ⊢
  obtain ⟨ca0, ca1, ca2⟩ := va
  obtain ⟨cr0, cr1, cr2⟩ := vr
  obtain ⟨fr0, fr1, fr2⟩ := fr
  clear hg1 hx hy hz hr
  go_wp2_with fail
  go_region
  go_wp2
  exact bodyPost_ret (v := .agg #[.int .i64 (wrap64 (x.tdiv g)), .int .i64 (wrap64 (y.tdiv g)), .int .i64 (wrap64 (z.tdiv g))]) (by simp [results, Tryz.results60, go_sem, cr0, cr1, cr2]) rfl ⟨by rw [unhide HG], (below_set3 hB (by omega) _ _ _).drew⟩
end Go.Proofs.YtjdehbpgdplolaaGreatDoor

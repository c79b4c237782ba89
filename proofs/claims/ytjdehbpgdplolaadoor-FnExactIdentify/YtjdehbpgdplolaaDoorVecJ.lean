/- CosCmp, the program's. -/
import Derived.Test.YtjdehbpgdplolaaDoorVecI
import Derived.Lib.QuietBelow
namespace Go.Proofs.YtjdehbpgdplolaaDoor
open Go.RowKit Go.Sort
set_option linter.unusedVariables false

theorem Calls.regrown_same {P : Program} {f : FuncId} {args : Array Value} {w : World} {d : Nat} {os : Array Obj} {v : Value}
    (h : Calls P f args (grow (redrawn w d) os) fun e w' => e = .returned v ∧ w' = grow (redrawn w d) os) : Calls P f args (grow (redrawn w d) os) fun e w'' => e = .returned v ∧ ∃ p : Regrown, w'' = grow (redrawn w p.d) p.os :=
  h.mono fun _ _ ⟨he, hm⟩ => ⟨he, ⟨d, os⟩, hm⟩

set_option maxHeartbeats 2000000 in
set_option maxRecDepth 100000 in
theorem cosCmp_any (a1 a2 a3 b1 b2 b3 c1 c2 c3 d1 d2 d3 : Int) (w : World) :
    Calls Tryd.prog 71 #[.agg #[.int .i64 a1, .int .i64 a2, .int .i64 a3], .agg #[.int .i64 b1, .int .i64 b2, .int .i64 b3], .agg #[.int .i64 c1, .int .i64 c2, .int .i64 c3], .agg #[.int .i64 d1, .int .i64 d2, .int .i64 d3]] w fun e w' => e = .returned (.int .i64 (cosI a1 a2 a3 b1 b2 b3 c1 c2 c3 d1 d2 d3)) ∧ Below w.heap.size w w' := by
  go_enter Tryd.func71, Tryd.ntmps71
  go_wp2_with fail
  refine (isWide_any a1 a2 a3 _).mono ?_
  rintro e w1 ⟨rfl, hB1⟩
  have hB : Below w.heap.size w w1 := below_call (below4 _ _ _ _ _) hB1
  have hs : w.heap.size + 4 ≤ w1.heap.size := by have := hB1.size; simpa [Nat.add_assoc] using this
  have va : VecAt w1 w.heap.size a1 a2 a3 := ((((by simpa using vecAt_new w a1 a2 a3 _ : VecAt _ w.heap.size a1 a2 a3).alloc (by simp <;> omega) _).alloc (by simp <;> omega) _).alloc (by simp <;> omega) _).kept (by simp <;> omega) hB1
  have vb : VecAt w1 (w.heap.size + 1) b1 b2 b3 := (((by simpa using vecAt_new (w.alloc _) b1 b2 b3 _ : VecAt _ (w.heap.size + 1) b1 b2 b3).alloc (by simp <;> omega) _).alloc (by simp <;> omega) _).kept (by simp <;> omega) hB1
  have vc : VecAt w1 (w.heap.size + 1 + 1) c1 c2 c3 := ((by simpa using vecAt_new ((w.alloc _).alloc _) c1 c2 c3 _ : VecAt _ (w.heap.size + 1 + 1) c1 c2 c3).alloc (by simp <;> omega) _).kept (by simp <;> omega) hB1
  have vd : VecAt w1 (w.heap.size + 1 + 1 + 1) d1 d2 d3 := (by simpa using vecAt_new (((w.alloc _).alloc _).alloc _) d1 d2 d3 _ : VecAt _ (w.heap.size + 1 + 1 + 1) d1 d2 d3).kept (by simp <;> omega) hB1
  clear hB1
  have hva := va
  obtain ⟨ca0, ca1, ca2⟩ := va
  have hvb := vb
  obtain ⟨cb0, cb1, cb2⟩ := vb
  have hvc := vc
  obtain ⟨cc0, cc1, cc2⟩ := vc
  have hvd := vd
  obtain ⟨cd0, cd1, cd2⟩ := vd
  cases ha : wideB a1 a2 a3
  · go_wp2_with fail
    go_ret
    exact ⟨by simp [cosI, ha], hB⟩
  · go_wp2_with fail
    refine (isWide_any b1 b2 b3 _).mono ?_
    rintro e w2 ⟨rfl, hB2⟩
    have va := hva.kept (by omega) hB2
    have vb := hvb.kept (by omega) hB2
    have vc := hvc.kept (by omega) hB2
    have vd := hvd.kept (by omega) hB2
    replace hs : w.heap.size + 4 ≤ w2.heap.size := by have := hB2.size; omega
    replace hB : Below w.heap.size w w2 := below_call hB hB2
    clear hva ca0 ca1 ca2 hvb cb0 cb1 cb2 hvc cc0 cc1 cc2 hvd cd0 cd1 cd2
    clear hB2
    have hva := va
    obtain ⟨ca0, ca1, ca2⟩ := va
    have hvb := vb
    obtain ⟨cb0, cb1, cb2⟩ := vb
    have hvc := vc
    obtain ⟨cc0, cc1, cc2⟩ := vc
    have hvd := vd
    obtain ⟨cd0, cd1, cd2⟩ := vd
    cases hb : wideB b1 b2 b3
    · go_wp2_with fail
      go_ret
      exact ⟨by simp [cosI, hb], hB⟩
    · go_wp2_with fail
      refine (isSmall_any c1 c2 c3 _).mono ?_
      rintro e w3 ⟨rfl, hB3⟩
      have va := hva.kept (by omega) hB3
      have vb := hvb.kept (by omega) hB3
      have vc := hvc.kept (by omega) hB3
      have vd := hvd.kept (by omega) hB3
      replace hs : w.heap.size + 4 ≤ w3.heap.size := by have := hB3.size; omega
      replace hB : Below w.heap.size w w3 := below_call hB hB3
      clear hva ca0 ca1 ca2 hvb cb0 cb1 cb2 hvc cc0 cc1 cc2 hvd cd0 cd1 cd2
      clear hB3
      have hva := va
      obtain ⟨ca0, ca1, ca2⟩ := va
      have hvb := vb
      obtain ⟨cb0, cb1, cb2⟩ := vb
      have hvc := vc
      obtain ⟨cc0, cc1, cc2⟩ := vc
      have hvd := vd
      obtain ⟨cd0, cd1, cd2⟩ := vd
      cases hc : smallB c1 c2 c3
      · go_wp2_with fail
        go_ret
        exact ⟨by simp [cosI, hc], hB⟩
      · go_wp2_with fail
        refine (isSmall_any d1 d2 d3 _).mono ?_
        rintro e w4 ⟨rfl, hB4⟩
        have va := hva.kept (by omega) hB4
        have vb := hvb.kept (by omega) hB4
        have vc := hvc.kept (by omega) hB4
        have vd := hvd.kept (by omega) hB4
        replace hs : w.heap.size + 4 ≤ w4.heap.size := by have := hB4.size; omega
        replace hB : Below w.heap.size w w4 := below_call hB hB4
        clear hva ca0 ca1 ca2 hvb cb0 cb1 cb2 hvc cc0 cc1 cc2 hvd cd0 cd1 cd2
        clear hB4
        have hva := va
        obtain ⟨ca0, ca1, ca2⟩ := va
        have hvb := vb
        obtain ⟨cb0, cb1, cb2⟩ := vb
        have hvc := vc
        obtain ⟨cc0, cc1, cc2⟩ := vc
        have hvd := vd
        obtain ⟨cd0, cd1, cd2⟩ := vd
        cases hd : smallB d1 d2 d3
        · go_wp2_with fail
          go_ret
          exact ⟨by simp [cosI, hd], hB⟩
        · go_wp2_with fail
          have HD := hide (cos_eq ha hb hc hd)
          have ka0 := cell_regrown ca0
          have ka1 := cell_regrown ca1
          have ka2 := cell_regrown ca2
          have kb0 := cell_regrown cb0
          have kb1 := cell_regrown cb1
          have kb2 := cell_regrown cb2
          have kc0 := cell_regrown cc0
          have kc1 := cell_regrown cc1
          have kc2 := cell_regrown cc2
          have kd0 := cell_regrown cd0
          have kd1 := cell_regrown cd1
          have kd2 := cell_regrown cd2
          refine wp_region_quiet_below (by kernel_rfl) (by kernel_rfl) ?_
          repeat (quiet_step (first | exact Calls.regrown_of (dot_any _ _ _ _ _ _ _) | exact Calls.regrown_same (signed_any _ _) | exact Calls.regrown_of (lengths_any _ _ _ _ _ _ _)))
          refine wpQuiet_nil ?_
          intro _ hw'
          obtain ⟨⟨dq, osq⟩, hw''⟩ := hw'
          subst hw''
          have hb' := below_regrown w4 dq osq
          replace hB := below_call hB hb'
          have va := hva.kept (by omega) hb'
          have vb := hvb.kept (by omega) hb'
          have vc := hvc.kept (by omega) hb'
          have vd := hvd.kept (by omega) hb'
          clear ca0 ka0 ca1 ka1 ca2 ka2 cb0 kb0 cb1 kb1 cb2 kb2 cc0 kc0 cc1 kc1 cc2 kc2 cd0 kd0 cd1 kd1 cd2 kd2
          generalize grow (redrawn w4 dq) osq = w5 at hB hb' va vb vc vd ⊢
          obtain ⟨ca0, ca1, ca2⟩ := va
          obtain ⟨cb0, cb1, cb2⟩ := vb
          obtain ⟨cc0, cc1, cc2⟩ := vc
          obtain ⟨cd0, cd1, cd2⟩ := vd
          clear hb' hva hvb hvc hvd
          go_wp2_with fail
          have ka0 := cell_regrown ca0
          have ka1 := cell_regrown ca1
          have ka2 := cell_regrown ca2
          have kb0 := cell_regrown cb0
          have kb1 := cell_regrown cb1
          have kb2 := cell_regrown cb2
          have kc0 := cell_regrown cc0
          have kc1 := cell_regrown cc1
          have kc2 := cell_regrown cc2
          have kd0 := cell_regrown cd0
          have kd1 := cell_regrown cd1
          have kd2 := cell_regrown cd2
          refine wp_region_quiet_below (by kernel_rfl) (by kernel_rfl) ?_
          repeat (quiet_step (first | exact Calls.regrown_of (dot_any _ _ _ _ _ _ _) | exact Calls.regrown_same (signed_any _ _) | exact Calls.regrown_of (lengths_any _ _ _ _ _ _ _)))
          refine wpQuiet_nil ?_
          intro _ hw'
          obtain ⟨⟨dq, osq⟩, hw''⟩ := hw'
          subst hw''
          replace hB := below_call hB (below_regrown w5 dq osq)
          clear ca0 ka0 ca1 ka1 ca2 ka2 cb0 kb0 cb1 kb1 cb2 kb2 cc0 kc0 cc1 kc1 cc2 kc2 cd0 kd0 cd1 kd1 cd2 kd2
          go_wp2_with fail
          refine (order_any _ _ _).mono ?_
          rintro e w7 ⟨rfl, rfl⟩
          go_wp2_with fail
          go_ret
          exact ⟨by rw [unhide HD]; rfl, hB⟩
end Go.Proofs.YtjdehbpgdplolaaDoor

/- The third product: Det, the program's and the specification's. -/
import Derived.Test.YtofpjlhoppofdaaGreatDoorVecD
import Derived.Lib.QuietBelow
namespace Go.Proofs.YtofpjlhoppofdaaGreatDoor
open Go.RowKit Go.Sort
set_option linter.unusedVariables false

set_option maxHeartbeats 2000000 in
set_option maxRecDepth 100000 in
theorem det_any (a1 a2 a3 b1 b2 b3 c1 c2 c3 : Int) (w : World) :
    Calls Tryz.prog 197 #[.agg #[.int .i64 a1, .int .i64 a2, .int .i64 a3], .agg #[.int .i64 b1, .int .i64 b2, .int .i64 b3], .agg #[.int .i64 c1, .int .i64 c2, .int .i64 c3]] w fun e w' => e = .returned (.int .i64 (detI a1 a2 a3 b1 b2 b3 c1 c2 c3)) ∧ Below w.heap.size w w' := by
  go_enter Tryz.func197, Tryz.ntmps197
  go_wp2_with fail
  refine (vecRight_any a1 a2 a3 _).mono ?_
  rintro e w1 ⟨rfl, hB1⟩
  have hB : Below w.heap.size w w1 := below_call (below3 _ _ _ _) hB1
  have hs : w.heap.size + 3 ≤ w1.heap.size := by have := hB1.size; simpa [Nat.add_assoc] using this
  have va : VecAt w1 w.heap.size a1 a2 a3 := (((by simpa using vecAt_new w a1 a2 a3 _ : VecAt _ w.heap.size a1 a2 a3).alloc (by simp) _).alloc (by simp; omega) _).kept (by simp; omega) hB1
  have vb : VecAt w1 (w.heap.size + 1) b1 b2 b3 := ((by simpa using vecAt_new (w.alloc _) b1 b2 b3 _ : VecAt _ (w.heap.size + 1) b1 b2 b3).alloc (by simp) _).kept (by simp) hB1
  have vc : VecAt w1 (w.heap.size + 1 + 1) c1 c2 c3 := (by simpa using vecAt_new ((w.alloc _).alloc _) c1 c2 c3 _ : VecAt _ (w.heap.size + 1 + 1) c1 c2 c3).kept (by simp) hB1
  clear hB1
  have hva := va
  obtain ⟨ca0, ca1, ca2⟩ := va
  have hvb := vb
  obtain ⟨cb0, cb1, cb2⟩ := vb
  have hvc := vc
  obtain ⟨cc0, cc1, cc2⟩ := vc
  cases ha : rightB a1 a2 a3
  · go_wp2_with fail
    go_ret
    exact ⟨by simp [detI, ha], hB⟩
  · go_wp2_with fail
    refine (vecRight_any b1 b2 b3 _).mono ?_
    rintro e w2 ⟨rfl, hB2⟩
    have va := hva.kept (by omega) hB2
    have vb := hvb.kept (by omega) hB2
    have vc := hvc.kept (by omega) hB2
    replace hs : w.heap.size + 3 ≤ w2.heap.size := by have := hB2.size; omega
    replace hB : Below w.heap.size w w2 := below_call hB hB2
    clear hva ca0 ca1 ca2 hvb cb0 cb1 cb2 hvc cc0 cc1 cc2
    clear hB2
    have hva := va
    obtain ⟨ca0, ca1, ca2⟩ := va
    have hvb := vb
    obtain ⟨cb0, cb1, cb2⟩ := vb
    have hvc := vc
    obtain ⟨cc0, cc1, cc2⟩ := vc
    cases hb : rightB b1 b2 b3
    · go_wp2_with fail
      go_ret
      exact ⟨by simp [detI, hb], hB⟩
    · go_wp2_with fail
      refine (vecRight_any c1 c2 c3 _).mono ?_
      rintro e w3 ⟨rfl, hB3⟩
      have va := hva.kept (by omega) hB3
      have vb := hvb.kept (by omega) hB3
      have vc := hvc.kept (by omega) hB3
      replace hs : w.heap.size + 3 ≤ w3.heap.size := by have := hB3.size; omega
      replace hB : Below w.heap.size w w3 := below_call hB hB3
      clear hva ca0 ca1 ca2 hvb cb0 cb1 cb2 hvc cc0 cc1 cc2
      clear hB3
      have hva := va
      obtain ⟨ca0, ca1, ca2⟩ := va
      have hvb := vb
      obtain ⟨cb0, cb1, cb2⟩ := vb
      have hvc := vc
      obtain ⟨cc0, cc1, cc2⟩ := vc
      cases hc : rightB c1 c2 c3
      · go_wp2_with fail
        go_ret
        exact ⟨by simp [detI, hc], hB⟩
      · go_wp2_with fail
        clear hva hvb hvc
        have HD := hide (show detI a1 a2 a3 b1 b2 b3 c1 c2 c3 = dotW (crW a2 a3 b2 b3) (crW a3 a1 b3 b1) (crW a1 a2 b1 b2) c1 c2 c3 by simp [detI, ha, hb, hc])
        have ka0 := cell_regrown ca0
        have ka1 := cell_regrown ca1
        have ka2 := cell_regrown ca2
        have kb0 := cell_regrown cb0
        have kb1 := cell_regrown cb1
        have kb2 := cell_regrown cb2
        have kc0 := cell_regrown cc0
        have kc1 := cell_regrown cc1
        have kc2 := cell_regrown cc2
        refine wp_region_quiet_below (by kernel_rfl) (by kernel_rfl) ?_
        repeat (quiet_step (first | exact Calls.regrown_of (cross_any a1 a2 a3 b1 b2 b3 _) | exact Calls.regrown_of (times_any _ _ _ c1 c2 c3 _)))
        refine wpQuiet_nil ?_
        intro _ hw'
        obtain ⟨⟨dq, osq⟩, hw''⟩ := hw'
        subst hw''
        clear ca0 ka0 ca1 ka1 ca2 ka2 cb0 kb0 cb1 kb1 cb2 kb2 cc0 kc0 cc1 kc1 cc2 kc2
        go_wp2
        go_ret
        exact ⟨by rw [unhide HD]; simp [crI], below_call hB (below_regrown w3 dq osq)⟩
end Go.Proofs.YtofpjlhoppofdaaGreatDoor

/- Several texts in one: VecJ, VecK, VecL, SkyA, VecF, VecG, VecH, SkyB, SkyC, FrB, Bytes, ModM. -/
import Derived.Lib.QuietBelow
import Derived.Test.YthoiooefclbecaaGreatDoorChecked
import Derived.WalkKit
import Derived.LaidEql
import Derived.Stop.Asserts
import Derived.RowKitTokens
import Derived.Deep.QuietTactic
import Derived.BigQuiet
import Derived.BigRegion
import Derived.Test.YthoiooefclbecaaGreatDoorRows
import Derived.WalkSpells
import Derived.WalkLawsBesides
import Derived.Lib.BufferWrite
import Derived.Lib.SlBytesRow
import Derived.Test.YthoiooefclbecaaGreatDoorQFnSkyOwn1
namespace Go.Proofs.YthoiooefclbecaaGreatDoor
set_option linter.unusedVariables false
set_option linter.unusedSimpArgs false
set_option maxRecDepth 100000
set_option maxHeartbeats 8000000
section
open Go.RowKit Go.Sort
theorem Calls.regrown_same {P : Program} {f : FuncId} {args : Array Value} {w : World} {d : Nat} {os : Array Obj} {v : Value}
  (h : Calls P f args (grow (redrawn w d) os) fun e w' => e = .returned v ∧ w' = grow (redrawn w d) os) : Calls P f args (grow (redrawn w d) os) fun e w'' => e = .returned v ∧ ∃ p : Regrown, w'' = grow (redrawn w p.d) p.os :=
 h.mono fun _ _ ⟨he, hm⟩ => ⟨he, ⟨d, os⟩, hm⟩
theorem eT (a1 a2 a3 b1 b2 b3 c1 c2 c3 d1 d2 d3 : Int) (w : World) :
  Calls Tryz.prog 26 #[.agg #[.int .i64 a1, .int .i64 a2, .int .i64 a3], .agg #[.int .i64 b1, .int .i64 b2, .int .i64 b3], .agg #[.int .i64 c1, .int .i64 c2, .int .i64 c3], .agg #[.int .i64 d1, .int .i64 d2, .int .i64 d3]] w fun e w' => e = .returned (.int .i64 (dH a1 a2 a3 b1 b2 b3 c1 c2 c3 d1 d2 d3)) ∧ Below w.heap.size w w' := by
 go_enter Tryz.func26, Tryz.ntmps26
 go_wp2_with fail
 refine (ei a1 a2 a3 _).mono ?_
 rintro e w1 ⟨rfl, hB1⟩
 have hB : Below w.heap.size w w1 := ak (qR _ _ _ _ _) hB1
 have hs : w.heap.size + 4 ≤ w1.heap.size := by have := hB1.size; simpa [Nat.add_assoc] using this
 have va : av w1 w.heap.size a1 a2 a3 := ((((by simpa using aw w a1 a2 a3 _ : av _ w.heap.size a1 a2 a3).alloc (by simp <;> omega) _).alloc (by simp <;> omega) _).alloc (by simp <;> omega) _).kept (by simp <;> omega) hB1
 have vb : av w1 (w.heap.size + 1) b1 b2 b3 := (((by simpa using aw (w.alloc _) b1 b2 b3 _ : av _ (w.heap.size + 1) b1 b2 b3).alloc (by simp <;> omega) _).alloc (by simp <;> omega) _).kept (by simp <;> omega) hB1
 have vc : av w1 (w.heap.size + 1 + 1) c1 c2 c3 := ((by simpa using aw ((w.alloc _).alloc _) c1 c2 c3 _ : av _ (w.heap.size + 1 + 1) c1 c2 c3).alloc (by simp <;> omega) _).kept (by simp <;> omega) hB1
 have vd : av w1 (w.heap.size + 1 + 1 + 1) d1 d2 d3 := (by simpa using aw (((w.alloc _).alloc _).alloc _) d1 d2 d3 _ : av _ (w.heap.size + 1 + 1 + 1) d1 d2 d3).kept (by simp <;> omega) hB1
 clear hB1
 have hva := va
 obtain ⟨ca0, ca1, ca2⟩ := va
 have hvb := vb
 obtain ⟨cb0, cb1, cb2⟩ := vb
 have hvc := vc
 obtain ⟨cc0, cc1, cc2⟩ := vc
 have hvd := vd
 obtain ⟨cd0, cd1, cd2⟩ := vd
 cases ha : aO a1 a2 a3
 ·go_wp2_with fail
  go_ret
  exact ⟨by simp [dH, ha], hB⟩
 ·go_wp2_with fail
  refine (ei b1 b2 b3 _).mono ?_
  rintro e w2 ⟨rfl, hB2⟩
  have va := hva.kept (by omega) hB2
  have vb := hvb.kept (by omega) hB2
  have vc := hvc.kept (by omega) hB2
  have vd := hvd.kept (by omega) hB2
  replace hs : w.heap.size + 4 ≤ w2.heap.size := by have := hB2.size; omega
  replace hB : Below w.heap.size w w2 := ak hB hB2
  clear hva ca0 ca1 ca2 hvb cb0 cb1 cb2 hvc cc0 cc1 cc2 hvd cd0 cd1 cd2
  clear hB2
  have hva := va
  obtain ⟨ca0, ca1, ca2⟩ := va
  have hvb := vb
  obtain ⟨cb0, cb1, cb2⟩ := vb
  have hvc := vc
  obtain ⟨cc0, cc1, cc2⟩ := vc
  have hvd := vd
  obtain ⟨cd0, cd1, cd2⟩ := vd
  cases hb : aO b1 b2 b3
  ·go_wp2_with fail
   go_ret
   exact ⟨by simp [dH, hb], hB⟩
  ·go_wp2_with fail
   refine (dj c1 c2 c3 _).mono ?_
   rintro e w3 ⟨rfl, hB3⟩
   have va := hva.kept (by omega) hB3
   have vb := hvb.kept (by omega) hB3
   have vc := hvc.kept (by omega) hB3
   have vd := hvd.kept (by omega) hB3
   replace hs : w.heap.size + 4 ≤ w3.heap.size := by have := hB3.size; omega
   replace hB : Below w.heap.size w w3 := ak hB hB3
   clear hva ca0 ca1 ca2 hvb cb0 cb1 cb2 hvc cc0 cc1 cc2 hvd cd0 cd1 cd2
   clear hB3
   have hva := va
   obtain ⟨ca0, ca1, ca2⟩ := va
   have hvb := vb
   obtain ⟨cb0, cb1, cb2⟩ := vb
   have hvc := vc
   obtain ⟨cc0, cc1, cc2⟩ := vc
   have hvd := vd
   obtain ⟨cd0, cd1, cd2⟩ := vd
   cases hc : aF c1 c2 c3
   ·go_wp2_with fail
    go_ret
    exact ⟨by simp [dH, hc], hB⟩
   ·go_wp2_with fail
    refine (dj d1 d2 d3 _).mono ?_
    rintro e w4 ⟨rfl, hB4⟩
    have va := hva.kept (by omega) hB4
    have vb := hvb.kept (by omega) hB4
    have vc := hvc.kept (by omega) hB4
    have vd := hvd.kept (by omega) hB4
    replace hs : w.heap.size + 4 ≤ w4.heap.size := by have := hB4.size; omega
    replace hB : Below w.heap.size w w4 := ak hB hB4
    clear hva ca0 ca1 ca2 hvb cb0 cb1 cb2 hvc cc0 cc1 cc2 hvd cd0 cd1 cd2
    clear hB4
    have hva := va
    obtain ⟨ca0, ca1, ca2⟩ := va
    have hvb := vb
    obtain ⟨cb0, cb1, cb2⟩ := vb
    have hvc := vc
    obtain ⟨cc0, cc1, cc2⟩ := vc
    have hvd := vd
    obtain ⟨cd0, cd1, cd2⟩ := vd
    cases hd : aF d1 d2 d3
    ·go_wp2_with fail
     go_ret
     exact ⟨by simp [dH, hd], hB⟩
    ·go_wp2_with fail
     have HD := yz (sY ha hb hc hd)
     have ka0 := cell_regrown ca0
     have ka1 := cell_regrown ca1
     have ka2 := cell_regrown ca2
     have kb0 := cell_regrown cb0
     have kb1 := cell_regrown cb1
     have kb2 := cell_regrown cb2
     have kc0 := cell_regrown cc0
     have kc1 := cell_regrown cc1
     have kc2 := cell_regrown cc2
     have kd0 := cell_regrown cd0
     have kd1 := cell_regrown cd1
     have kd2 := cell_regrown cd2
     refine wp_region_quiet_below (by kernel_rfl) (by kernel_rfl) ?_
     repeat (quiet_step (first | exact Calls.regrown_of (lW _ _ _ _ _ _ _) | exact Calls.regrown_same (kx _ _) | exact Calls.regrown_of (iX _ _ _ _ _ _ _)))
     refine wpQuiet_nil ?_
     intro _ hw'
     obtain ⟨⟨dq, osq⟩, hw''⟩ := hw'
     subst hw''
     have hb' := below_regrown w4 dq osq
     replace hB := ak hB hb'
     have va := hva.kept (by omega) hb'
     have vb := hvb.kept (by omega) hb'
     have vc := hvc.kept (by omega) hb'
     have vd := hvd.kept (by omega) hb'
     clear ca0 ka0 ca1 ka1 ca2 ka2 cb0 kb0 cb1 kb1 cb2 kb2 cc0 kc0 cc1 kc1 cc2 kc2 cd0 kd0 cd1 kd1 cd2 kd2
     generalize grow (redrawn w4 dq) osq = w5 at hB hb' va vb vc vd ⊢
     obtain ⟨ca0, ca1, ca2⟩ := va
     obtain ⟨cb0, cb1, cb2⟩ := vb
     obtain ⟨cc0, cc1, cc2⟩ := vc
     obtain ⟨cd0, cd1, cd2⟩ := vd
     clear hb' hva hvb hvc hvd
     go_wp2_with fail
     have ka0 := cell_regrown ca0
     have ka1 := cell_regrown ca1
     have ka2 := cell_regrown ca2
     have kb0 := cell_regrown cb0
     have kb1 := cell_regrown cb1
     have kb2 := cell_regrown cb2
     have kc0 := cell_regrown cc0
     have kc1 := cell_regrown cc1
     have kc2 := cell_regrown cc2
     have kd0 := cell_regrown cd0
     have kd1 := cell_regrown cd1
     have kd2 := cell_regrown cd2
     refine wp_region_quiet_below (by kernel_rfl) (by kernel_rfl) ?_
     repeat (quiet_step (first | exact Calls.regrown_of (lW _ _ _ _ _ _ _) | exact Calls.regrown_same (kx _ _) | exact Calls.regrown_of (iX _ _ _ _ _ _ _)))
     refine wpQuiet_nil ?_
     intro _ hw'
     obtain ⟨⟨dq, osq⟩, hw''⟩ := hw'
     subst hw''
     replace hB := ak hB (below_regrown w5 dq osq)
     clear ca0 ka0 ca1 ka1 ca2 ka2 cb0 kb0 cb1 kb1 cb2 kb2 cc0 kc0 cc1 kc1 cc2 kc2 cd0 kd0 cd1 kd1 cd2 kd2
     go_wp2_with fail
     refine (iF _ _ _).mono ?_
     rintro e w7 ⟨rfl, rfl⟩
     go_wp2_with fail
     go_ret
     exact ⟨by rw [yy HD]; rfl, hB⟩
theorem av.in {w : World} {b : Nat} {x y z : Int} (h : av w b x y z) : b < w.heap.size := World.block_lt_of_cell? w _ h.1
theorem ce (n : Int) (w : World) :
  Calls Tryz.prog 103 #[.int .i64 n] w fun e w' => e = .returned (.int .i64 (sgn n)) ∧ w' = w := by
 by_cases h : n < 0
 ·have HS := yz (show sgn n = -1 by unfold sgn; rw [if_pos h])
  go_enter Tryz.func103, Tryz.ntmps103
  go_wp2
  go_ret
  exact ⟨by rw [yy HS]; rfl, rfl⟩
 ·by_cases h2 : 0 < n
  ·have HS := yz (show sgn n = 1 by unfold sgn; rw [if_neg h, if_pos h2])
   go_enter Tryz.func103, Tryz.ntmps103
   go_wp2
   go_ret
   exact ⟨by rw [yy HS]; rfl, rfl⟩
  ·have HS := yz (show sgn n = 0 by unfold sgn; rw [if_neg h, if_neg h2])
   go_enter Tryz.func103, Tryz.ntmps103
   go_wp2
   go_ret
   exact ⟨by rw [yy HS]; rfl, rfl⟩
theorem oL (a1 a2 a3 b1 b2 b3 c1 c2 c3 d1 d2 d3 : Int) (w : World) :
  Calls Tryz.prog 62 #[.agg #[.int .i64 a1, .int .i64 a2, .int .i64 a3], .agg #[.int .i64 b1, .int .i64 b2, .int .i64 b3], .agg #[.int .i64 c1, .int .i64 c2, .int .i64 c3], .agg #[.int .i64 d1, .int .i64 d2, .int .i64 d3]] w fun e w' => e = .returned (.int .i64 (jm (aR a1 a2 a3 b1 b2 b3) (aR c1 c2 c3 d1 d2 d3) (wrap64 (wrap64 (aR a1 a2 a3 b1 b2 b3 * aR a1 a2 a3 b1 b2 b3) * wrap64 (aR c1 c2 c3 c1 c2 c3 * aR d1 d2 d3 d1 d2 d3))) (wrap64 (wrap64 (aR c1 c2 c3 d1 d2 d3 * aR c1 c2 c3 d1 d2 d3) * wrap64 (aR a1 a2 a3 a1 a2 a3 * aR b1 b2 b3 b1 b2 b3))))) ∧ Below w.heap.size w w' := by
 go_enter Tryz.func62, Tryz.ntmps62
 go_wp2_with fail
 have va : av ((((w.alloc (.cells #[.int .i64 a1, .int .i64 a2, .int .i64 a3] 33)).alloc (.cells #[.int .i64 b1, .int .i64 b2, .int .i64 b3] 33)).alloc (.cells #[.int .i64 c1, .int .i64 c2, .int .i64 c3] 33)).alloc (.cells #[.int .i64 d1, .int .i64 d2, .int .i64 d3] 33)) w.heap.size a1 a2 a3 := ((((by simpa using aw w a1 a2 a3 33 : av (w.alloc (.cells #[.int .i64 a1, .int .i64 a2, .int .i64 a3] 33)) w.heap.size a1 a2 a3).alloc (by simp <;> omega) _).alloc (by simp <;> omega) _).alloc (by simp <;> omega) _)
 have vb : av ((((w.alloc (.cells #[.int .i64 a1, .int .i64 a2, .int .i64 a3] 33)).alloc (.cells #[.int .i64 b1, .int .i64 b2, .int .i64 b3] 33)).alloc (.cells #[.int .i64 c1, .int .i64 c2, .int .i64 c3] 33)).alloc (.cells #[.int .i64 d1, .int .i64 d2, .int .i64 d3] 33)) (w.heap.size + 1) b1 b2 b3 := (((by simpa using aw (w.alloc (.cells #[.int .i64 a1, .int .i64 a2, .int .i64 a3] 33)) b1 b2 b3 33 : av ((w.alloc (.cells #[.int .i64 a1, .int .i64 a2, .int .i64 a3] 33)).alloc (.cells #[.int .i64 b1, .int .i64 b2, .int .i64 b3] 33)) (w.heap.size + 1) b1 b2 b3).alloc (by simp <;> omega) _).alloc (by simp <;> omega) _)
 have vc : av ((((w.alloc (.cells #[.int .i64 a1, .int .i64 a2, .int .i64 a3] 33)).alloc (.cells #[.int .i64 b1, .int .i64 b2, .int .i64 b3] 33)).alloc (.cells #[.int .i64 c1, .int .i64 c2, .int .i64 c3] 33)).alloc (.cells #[.int .i64 d1, .int .i64 d2, .int .i64 d3] 33)) (w.heap.size + 1 + 1) c1 c2 c3 := ((by simpa using aw ((w.alloc (.cells #[.int .i64 a1, .int .i64 a2, .int .i64 a3] 33)).alloc (.cells #[.int .i64 b1, .int .i64 b2, .int .i64 b3] 33)) c1 c2 c3 33 : av (((w.alloc (.cells #[.int .i64 a1, .int .i64 a2, .int .i64 a3] 33)).alloc (.cells #[.int .i64 b1, .int .i64 b2, .int .i64 b3] 33)).alloc (.cells #[.int .i64 c1, .int .i64 c2, .int .i64 c3] 33)) (w.heap.size + 1 + 1) c1 c2 c3).alloc (by simp <;> omega) _)
 have vd : av ((((w.alloc (.cells #[.int .i64 a1, .int .i64 a2, .int .i64 a3] 33)).alloc (.cells #[.int .i64 b1, .int .i64 b2, .int .i64 b3] 33)).alloc (.cells #[.int .i64 c1, .int .i64 c2, .int .i64 c3] 33)).alloc (.cells #[.int .i64 d1, .int .i64 d2, .int .i64 d3] 33)) (w.heap.size + 1 + 1 + 1) d1 d2 d3 := (by simpa using aw (((w.alloc (.cells #[.int .i64 a1, .int .i64 a2, .int .i64 a3] 33)).alloc (.cells #[.int .i64 b1, .int .i64 b2, .int .i64 b3] 33)).alloc (.cells #[.int .i64 c1, .int .i64 c2, .int .i64 c3] 33)) d1 d2 d3 33 : av ((((w.alloc (.cells #[.int .i64 a1, .int .i64 a2, .int .i64 a3] 33)).alloc (.cells #[.int .i64 b1, .int .i64 b2, .int .i64 b3] 33)).alloc (.cells #[.int .i64 c1, .int .i64 c2, .int .i64 c3] 33)).alloc (.cells #[.int .i64 d1, .int .i64 d2, .int .i64 d3] 33)) (w.heap.size + 1 + 1 + 1) d1 d2 d3)
 have hB : Below w.heap.size w ((((w.alloc (.cells #[.int .i64 a1, .int .i64 a2, .int .i64 a3] 33)).alloc (.cells #[.int .i64 b1, .int .i64 b2, .int .i64 b3] 33)).alloc (.cells #[.int .i64 c1, .int .i64 c2, .int .i64 c3] 33)).alloc (.cells #[.int .i64 d1, .int .i64 d2, .int .i64 d3] 33)) := qR _ _ _ _ _
 generalize ((((w.alloc (.cells #[.int .i64 a1, .int .i64 a2, .int .i64 a3] 33)).alloc (.cells #[.int .i64 b1, .int .i64 b2, .int .i64 b3] 33)).alloc (.cells #[.int .i64 c1, .int .i64 c2, .int .i64 c3] 33)).alloc (.cells #[.int .i64 d1, .int .i64 d2, .int .i64 d3] 33)) = w1 at va vb vc vd hB ⊢
 have ha := va
 have hb := vb
 have hc := vc
 have hd := vd
 obtain ⟨ca0, ca1, ca2⟩ := va
 obtain ⟨cb0, cb1, cb2⟩ := vb
 obtain ⟨cc0, cc1, cc2⟩ := vc
 obtain ⟨cd0, cd1, cd2⟩ := vd
 refine (dD a1 a2 a3 b1 b2 b3 _).mono ?_
 rintro e w2 ⟨rfl, hx⟩
 have va := ha.kept (av.in ha) hx
 have vb := hb.kept (av.in hb) hx
 have vc := hc.kept (av.in hc) hx
 have vd := hd.kept (av.in hd) hx
 replace hB := ak hB hx
 clear ca0 ca1 ca2 cb0 cb1 cb2 cc0 cc1 cc2 cd0 cd1 cd2 ha hb hc hd hx
 have ha := va
 have hb := vb
 have hc := vc
 have hd := vd
 obtain ⟨ca0, ca1, ca2⟩ := va
 obtain ⟨cb0, cb1, cb2⟩ := vb
 obtain ⟨cc0, cc1, cc2⟩ := vc
 obtain ⟨cd0, cd1, cd2⟩ := vd
 go_wp2_with fail
 refine (dD c1 c2 c3 d1 d2 d3 _).mono ?_
 rintro e w3 ⟨rfl, hx⟩
 have va := ha.kept (av.in ha) hx
 have vb := hb.kept (av.in hb) hx
 have vc := hc.kept (av.in hc) hx
 have vd := hd.kept (av.in hd) hx
 replace hB := ak hB hx
 clear ca0 ca1 ca2 cb0 cb1 cb2 cc0 cc1 cc2 cd0 cd1 cd2 ha hb hc hd hx
 have ha := va
 have hb := vb
 have hc := vc
 have hd := vd
 obtain ⟨ca0, ca1, ca2⟩ := va
 obtain ⟨cb0, cb1, cb2⟩ := vb
 obtain ⟨cc0, cc1, cc2⟩ := vc
 obtain ⟨cd0, cd1, cd2⟩ := vd
 generalize hxe : aR a1 a2 a3 b1 b2 b3 = x
 generalize hye : aR c1 c2 c3 d1 d2 d3 = y
 have HX := yz hxe
 have HY := yz hye
 clear hxe hye
 go_wp2_with fail
 refine (ce x _).mono ?_
 rintro e w3 ⟨rfl, rfl⟩
 go_wp2_with fail
 refine (ce y _).mono ?_
 rintro e w3 ⟨rfl, rfl⟩
 by_cases hs : sgn x = sgn y
 ·have hse : (sgn x == sgn y) = true := by simp [hs]
  go_wp2_with fail
  have kc0 := cell_regrown cc0
  have kc1 := cell_regrown cc1
  have kc2 := cell_regrown cc2
  have kd0 := cell_regrown cd0
  have kd1 := cell_regrown cd1
  have kd2 := cell_regrown cd2
  refine wp_region_quiet_below (by kernel_rfl) (by kernel_rfl) ?_
  repeat (quiet_step (first | exact Calls.regrown_of (dD _ _ _ _ _ _ _) | fail))
  refine wpQuiet_nil ?_
  intro _ hw'
  obtain ⟨⟨dq, osq⟩, hw''⟩ := hw'
  subst hw''
  have hx := below_regrown w3 dq osq
  generalize grow (redrawn w3 dq) osq = w4 at hx ⊢
  clear kc0 kc1 kc2 kd0 kd1 kd2
  have va := ha.kept (av.in ha) hx
  have vb := hb.kept (av.in hb) hx
  have vc := hc.kept (av.in hc) hx
  have vd := hd.kept (av.in hd) hx
  replace hB := ak hB hx
  clear ca0 ca1 ca2 cb0 cb1 cb2 cc0 cc1 cc2 cd0 cd1 cd2 ha hb hc hd hx
  have ha := va
  have hb := vb
  have hc := vc
  have hd := vd
  obtain ⟨ca0, ca1, ca2⟩ := va
  obtain ⟨cb0, cb1, cb2⟩ := vb
  obtain ⟨cc0, cc1, cc2⟩ := vc
  obtain ⟨cd0, cd1, cd2⟩ := vd
  go_wp2_with fail
  have ka0 := cell_regrown ca0
  have ka1 := cell_regrown ca1
  have ka2 := cell_regrown ca2
  have kb0 := cell_regrown cb0
  have kb1 := cell_regrown cb1
  have kb2 := cell_regrown cb2
  refine wp_region_quiet_below (by kernel_rfl) (by kernel_rfl) ?_
  repeat (quiet_step (first | exact Calls.regrown_of (dD _ _ _ _ _ _ _) | fail))
  refine wpQuiet_nil ?_
  intro _ hw'
  obtain ⟨⟨dq, osq⟩, hw''⟩ := hw'
  subst hw''
  have hx := below_regrown w4 dq osq
  generalize grow (redrawn w4 dq) osq = w5 at hx ⊢
  clear ka0 ka1 ka2 kb0 kb1 kb2
  have va := ha.kept (av.in ha) hx
  have vb := hb.kept (av.in hb) hx
  have vc := hc.kept (av.in hc) hx
  have vd := hd.kept (av.in hd) hx
  replace hB := ak hB hx
  clear ca0 ca1 ca2 cb0 cb1 cb2 cc0 cc1 cc2 cd0 cd1 cd2 ha hb hc hd hx
  have ha := va
  have hb := vb
  have hc := vc
  have hd := vd
  obtain ⟨ca0, ca1, ca2⟩ := va
  obtain ⟨cb0, cb1, cb2⟩ := vb
  obtain ⟨cc0, cc1, cc2⟩ := vc
  obtain ⟨cd0, cd1, cd2⟩ := vd
  clear ha hb hc hd ca0 ca1 ca2 cb0 cb1 cb2 cc0 cc1 cc2 cd0 cd1 cd2
  simp only [Go.IntWalk.i64_left]
  generalize hpe : wrap64 (wrap64 (x * x) * wrap64 (aR c1 c2 c3 c1 c2 c3 * aR d1 d2 d3 d1 d2 d3)) = p
  generalize hqe : wrap64 (wrap64 (y * y) * wrap64 (aR a1 a2 a3 a1 a2 a3 * aR b1 b2 b3 b1 b2 b3)) = q
  have HP := yz hpe
  have HQ := yz hqe
  have HS := yz hs
  clear hpe hqe
  by_cases h1 : p < q
  ·have HE := yz (show jm x y p q = wrap64 (-sgn x) by unfold jm; rw [if_neg (by simp [hs]), if_pos h1])
   clear hs hse
   go_wp2_with fail
   refine (ce x _).mono ?_
   rintro e w5 ⟨rfl, rfl⟩
   go_wp2_with fail
   go_ret
   exact ⟨by rw [yy HX, yy HY, yy HP, yy HQ, yy HE]; rfl, hB⟩
  ·by_cases h2 : q < p
   ·have HE := yz (show jm x y p q = sgn x by unfold jm; rw [if_neg (by simp [hs]), if_neg h1, if_pos h2])
    clear hs hse
    go_wp2_with fail
    refine (ce x _).mono ?_
    rintro e w5 ⟨rfl, rfl⟩
    go_wp2_with fail
    go_ret
    exact ⟨by rw [yy HX, yy HY, yy HP, yy HQ, yy HE]; rfl, hB⟩
   ·have HE := yz (show jm x y p q = 0 by unfold jm; rw [if_neg (by simp [hs]), if_neg h1, if_neg h2])
    clear hs hse
    go_wp2_with fail
    go_ret
    exact ⟨by rw [yy HX, yy HY, yy HP, yy HQ, yy HE]; rfl, hB⟩
 ·have hse : (sgn x == sgn y) = false := by simp [hs]
  go_wp2_with fail
  refine (ce x _).mono ?_
  rintro e w3 ⟨rfl, rfl⟩
  go_wp2_with fail
  refine (ce y _).mono ?_
  rintro e w3 ⟨rfl, rfl⟩
  go_wp2_with fail
  refine (ce _ _).mono ?_
  rintro e w3 ⟨rfl, rfl⟩
  go_wp2_with fail
  go_ret
  exact ⟨by unfold jm; rw [yy HX, yy HY, if_pos hs]; rfl, hB⟩
theorem pO {p q r P Q : Int} (h1 : -P ≤ p ∧ p ≤ P) (h2 : -Q ≤ q ∧ q ≤ Q) (h3 : -Q ≤ r ∧ r ≤ Q) (k1 : P * P ≤ 9223372036854775807) (k3 : Q * Q ≤ 9223372036854775807) (k4 : (P * P) * (Q * Q) ≤ 9223372036854775807) :
  wrap64 (wrap64 (p * p) * wrap64 (q * r)) = p * p * (q * r) := by
 have m1 := bu h1 h1
 have m2 := bu h2 h3
 have m3 := bu m1 m2
 rw [au (n := p * p) (by omega) (by omega), au (n := q * r) (by omega) (by omega), au (by omega) (by omega)]
theorem pw {a1 a2 a3 b1 b2 b3 c1 c2 c3 d1 d2 d3 : Int} (ha : aO a1 a2 a3 = true) (hb : aO b1 b2 b3 = true) (hc : aF c1 c2 c3 = true) (hd : aF d1 d2 d3 = true) :
  dH a1 a2 a3 b1 b2 b3 c1 c2 c3 d1 d2 d3 = jm (aR a1 a2 a3 b1 b2 b3) (aR c1 c2 c3 d1 d2 d3) (wrap64 (wrap64 (aR a1 a2 a3 b1 b2 b3 * aR a1 a2 a3 b1 b2 b3) * wrap64 (aR c1 c2 c3 c1 c2 c3 * aR d1 d2 d3 d1 d2 d3))) (wrap64 (wrap64 (aR c1 c2 c3 d1 d2 d3 * aR c1 c2 c3 d1 d2 d3) * wrap64 (aR a1 a2 a3 a1 a2 a3 * aR b1 b2 b3 b1 b2 b3))) := by
 have wa := (cu ha).2
 have wb := (cu hb).2
 have wc := (cn hc).2
 have wd := (cn hd).2
 have pa := kG (bv.1 (cu ha).1).2
 have pb := kG (bv.1 (cu hb).1).2
 have pc := kG (bv.1 (cn hc).1).2
 have pd := kG (bv.1 (cn hd).1).2
 unfold dH
 rw [ha, hb, hc, hd, if_pos (by rfl)]
 rw [bN wa wb (by omega), bN wc wc (by omega), bN wd wd (by omega), bN wc wd (by omega), bN wa wa (by omega), bN wb wb (by omega)]
 have x1 := bl wa wb
 have x2 := bl wc wc
 have x3 := bl wd wd
 have x4 := bl wc wd
 have x5 := bl wa wa
 have x6 := bl wb wb
 rw [pO (P := 9720000) (Q := 300) (by omega) (by omega) (by omega) (by omega) (by omega) (by omega), pO (P := 300) (Q := 9720000) (by omega) (by omega) (by omega) (by omega) (by omega) (by omega)]
 exact (qW (Int.mul_pos pc pd) (Int.mul_pos pa pb)).symm
end
section
open Go.RowKit Go.Extern.Stop Go.Stop Go.Extern
theorem rr (v : Value) (w : World) : (Extern.ReflectliteType.typeOf #[.iface 153 v]).run Tryz.prog w = .ok (.iface 139 (.agg #[.pointer (some ⟨1, 153, none⟩)])) w := by kernel_rfl
theorem mf (w : World) : (callFunc 140 #[.agg #[.pointer (some ⟨1, 153, none⟩)]]).run Tryz.prog w = .ok (Next.value (.bool true)) w :=
 (@run_callFunc_extern Tryz.prog 140 _ (Extern.ReflectliteType.method fun t => do Extern.Rtype.noPackHeld "Comparable" t; pure (.bool (← typeInfo t).comparable)) Tryz.func140 (by kernel_rfl) (by kernel_rfl) (by kernel_rfl) (by kernel_rfl) _ w).trans (by kernel_rfl)
theorem gt (v : Value) (w : World) : (Go.method 289 139 v "Comparable").run Tryz.prog w = .ok (140, v) w := by kernel_rfl
theorem td : (Tryz.prog.info? 153).map (·.comparable) = some true := by kernel_rfl
theorem te : (Tryz.prog.info? 177).map (·.size) = some 1 := by kernel_rfl
theorem tv (v : Value) (xT : TypeId) (w : World) : (Instr.typeAssert (.iface 112 v) xT 141 true).run Tryz.prog w = .ok (.tuple #[.nilIface, .bool false]) w := run_typeAssert_lacksB Tryz.underlying141 (by kernel_rfl) (by kernel_rfl) v xT w
theorem oI (v : Value) (xT : TypeId) (w : World) : (Instr.typeAssert (.iface 112 v) xT 144 true).run Tryz.prog w = .ok (.tuple #[.iface 112 v, .bool true]) w := run_typeAssert_hasB Tryz.underlying144 (by kernel_rfl) v xT w
theorem mi (v : Value) (w : World) : (Go.method 289 112 v "Unwrap").run Tryz.prog w = .ok (135, v) w := by kernel_rfl
def aU (b : Addr) (w : World) : Prop := w.cell? ⟨0, 0, none⟩ = some (.iface 153 (.pointer (some b)))
theorem aU.lt {b : Addr} {w : World} (h : aU b w) : 0 < w.heap.size := World.block_lt_of_cell? w _ h
theorem aU.kept {b : Addr} {w w' : World} (h : aU b w) (hB : Below w.heap.size w w') : aU b w' := by
 unfold aU
 rw [hB.cell (p := ⟨0, 0, none⟩) h.lt]
 exact h
theorem rt (b : Addr) (w : World) :
  Calls Tryz.prog 42 #[.nilIface, .iface 153 (.pointer (some b))] w fun e w' => e = .returned (.bool false) ∧ w' = w := by
 have hn := run_eql_iface_nil_left (P := Tryz.prog) w 153 (.pointer (some b)) Tryz.underlying71
 go_enter Tryz.func42, Tryz.ntmps42
 go_wp2
 go_ret
 exact ⟨rfl, rfl⟩
theorem pn (why : ByteArray) (b : Addr) (w : World) (h : aU b w) :
  Calls Tryz.prog 135 #[.agg #[.string why]] w fun e w' => e = .returned (.iface 153 (.pointer (some b))) ∧ Below w.heap.size w w' := by
 have h' : aU b (w.alloc (.cells #[.string why] 112)) := h.kept (am _ _)
 unfold aU at h'
 go_enter Tryz.func135, Tryz.ntmps135
 go_wp2
 go_ret
 exact ⟨rfl, am _ _⟩
theorem nu (why : ByteArray) (b : Addr) (w : World) (h : aU b w) :
  Calls Tryz.prog 42 #[.iface 112 (.agg #[.string why]), .iface 153 (.pointer (some b))] w fun e w' => e = .returned (.bool true) ∧ Below w.heap.size w w' := by
 obtain ⟨i, hi, hcmp⟩ := Option.map_eq_some_iff.1 td
 obtain ⟨j, hj, hjs⟩ := Option.map_eq_some_iff.1 te
 have h8 := @run_callFunc_extern Tryz.prog 87 _ Extern.ReflectliteType.typeOf Tryz.func87 (by kernel_rfl) (by kernel_rfl) (by kernel_rfl) (by kernel_rfl)
 have tT := rr
 have cT := mf
 have mR := gt
 have nW := tv
 have uW := oI
 have mU := mi
 have heq := fun w => run_eql_iface_ptr_same (P := Tryz.prog) w b Tryz.underlying71 Tryz.underlying153 hi hcmp hj
 have hty := fun w => run_eql_iface_types (P := Tryz.prog) 112 153 (.agg #[.string why]) (.pointer (some b)) Tryz.underlying71 (by decide) w
 have HE := yz h
 clear h
 go_enter Tryz.func42, Tryz.ntmps42
 go_wp2
 refine wp_loop_rounds 2 ?_
 rw [rounds_succ]
 go_wp2_with (go_at_call 135; refine (pn why b _ (yy HE)).mono ?_; rintro e w1 ⟨rfl, hx⟩)
 rw [rounds_succ]
 go_wp2
 go_ret
 exact ⟨rfl, hx⟩
end
section
open Go.RowKit
theorem nL {a b : Int} (h : b ≠ 0) (hb : -1000000 ≤ b ∧ b ≤ 1000000) : wrap64 (a.tmod b) = a.tmod b ∧ -1000000 ≤ a.tmod b ∧ a.tmod b ≤ 1000000 := by
 have := mF a b h
 have h2 : -1000000 ≤ a.tmod b ∧ a.tmod b ≤ 1000000 := by omega
 exact ⟨au (by omega) (by omega), h2⟩
theorem bk (w : World) (n : Nat) : Below w.heap.size w (w.drewN n) := ⟨rfl, rfl, rfl, Nat.le_refl _, fun _ _ => rfl⟩
theorem dg (a b : Int) (w : World) (ha : -1000000 ≤ a ∧ a ≤ 1000000) (hb : -1000000 ≤ b ∧ b ≤ 1000000) :
  Calls Tryz.prog 114 #[.int .i64 a, .int .i64 b] w fun e w' => e = .returned (.int .i64 ((Int.gcd a b : Nat) : Int)) ∧ ∃ n, w' = w.drewN n := by
 go_enter Tryz.func114, Tryz.ntmps114
 go_wp2
 go_loopw [0, 1] (fun u v wr => ∃ p q : Int, u = .int .i64 p ∧ v = .int .i64 q ∧ Hid (-1000000 ≤ p ∧ p ≤ 1000000) ∧ Hid (-1000000 ≤ q ∧ q ≤ 1000000) ∧ Hid (Int.gcd p q = Int.gcd a b) ∧ ∃ n, wr = w.drewN n) (fun _ v _ => (intOf v).natAbs)
 case atStart => exact ⟨a, b, rfl, rfl, yz ha, yz hb, yz rfl, 0, rfl⟩
 case round =>
  obtain ⟨p, q, rfl, rfl, hp, hq, hg, nd, rfl⟩ := hrel
  by_cases h0 : q = 0
  ·subst h0
   have HG := yz (mZ p)
   by_cases hn : p < 0
   ·have HW : Hid (wrap64 (-p) = -p) := yz (by have := yy hp; exact au (by omega) (by omega))
    have HR := yz (show ((Int.gcd a b : Nat) : Int) = -p by rw [← yy hg, yy HG, if_pos hn])
    go_wp2
    go_ret
    exact ⟨by rw [yy HR]; exact congrArg (fun x => Ending.returned (Value.int .i64 x)) (yy HW), nd, rfl⟩
   ·have HR := yz (show ((Int.gcd a b : Nat) : Int) = p by rw [← yy hg, yy HG, if_neg hn])
    go_wp2
    go_ret
    exact ⟨by rw [yy HR]; rfl, nd, rfl⟩
  ·have hz : (q == 0) = false := by simp [h0]
   have hr := nL (a := p) h0 (yy hq)
   have HL := yz (mF p q h0)
   have HS := yz (mY p q)
   obtain ⟨r, hre⟩ : ∃ r, p.tmod q = r := ⟨_, rfl⟩
   have hrw := hr.1
   have HRB := yz hr.2
   rw [hre] at hrw HRB HL HS
   clear hr
   go_wp2
   go_region
   go_wp2
   go_roundw
   case rel => exact ⟨q, r, rfl, rfl, hq, HRB, yz ((yy HS).trans (yy hg)), nd + 1, rfl⟩
   case measure => simp [intOf]; exact yy HL
theorem ek (a b : Int) (w : World) (ha : -1000000 ≤ a ∧ a ≤ 1000000) (hb : -1000000 ≤ b ∧ b ≤ 1000000) :
  Calls Tryz.prog 96 #[.int .i64 a, .int .i64 b] w fun e w' => e = .returned (.int .i64 ((Int.gcd a b : Nat) : Int)) ∧ ∃ n, w' = w.drewN n := by
 go_enter Tryz.func96, Tryz.ntmps96
 go_wp2
 go_loopw [0, 1] (fun u v wr => ∃ p q : Int, u = .int .i64 p ∧ v = .int .i64 q ∧ Hid (-1000000 ≤ p ∧ p ≤ 1000000) ∧ Hid (-1000000 ≤ q ∧ q ≤ 1000000) ∧ Hid (Int.gcd p q = Int.gcd a b) ∧ ∃ n, wr = w.drewN n) (fun _ v _ => (intOf v).natAbs)
 case atStart => exact ⟨a, b, rfl, rfl, yz ha, yz hb, yz rfl, 0, rfl⟩
 case round =>
  obtain ⟨p, q, rfl, rfl, hp, hq, hg, nd, rfl⟩ := hrel
  by_cases h0 : q = 0
  ·subst h0
   have HG := yz (mZ p)
   by_cases hn : p < 0
   ·have HW : Hid (wrap64 (-p) = -p) := yz (by have := yy hp; exact au (by omega) (by omega))
    have HR := yz (show ((Int.gcd a b : Nat) : Int) = -p by rw [← yy hg, yy HG, if_pos hn])
    go_wp2
    go_ret
    exact ⟨by rw [yy HR]; exact congrArg (fun x => Ending.returned (Value.int .i64 x)) (yy HW), nd, rfl⟩
   ·have HR := yz (show ((Int.gcd a b : Nat) : Int) = p by rw [← yy hg, yy HG, if_neg hn])
    go_wp2
    go_ret
    exact ⟨by rw [yy HR]; rfl, nd, rfl⟩
  ·have hz : (q == 0) = false := by simp [h0]
   have hr := nL (a := p) h0 (yy hq)
   have HL := yz (mF p q h0)
   have HS := yz (mY p q)
   obtain ⟨r, hre⟩ : ∃ r, p.tmod q = r := ⟨_, rfl⟩
   have hrw := hr.1
   have HRB := yz hr.2
   rw [hre] at hrw HRB HL HS
   clear hr
   go_wp2
   go_roundw
   case rel => exact ⟨q, r, rfl, rfl, hq, HRB, yz ((yy HS).trans (yy hg)), nd, rfl⟩
   case measure => simp [intOf]; exact yy HL
theorem eY (x y z : Int) (w : World) (hr : ax x y z = true) :
  Calls Tryz.prog 54 #[.agg #[.int .i64 x, .int .i64 y, .int .i64 z]] w fun e w' => e = .returned (.agg #[.int .i64 (wrap64 (x.tdiv (gI x y z))), .int .i64 (wrap64 (y.tdiv (gI x y z))), .int .i64 (wrap64 (z.tdiv (gI x y z)))]) ∧ Below w.heap.size w w' := by
 obtain ⟨⟨hx, hy, hz⟩, _⟩ := bv.1 hr
 have hg1 := gn hx hy
 have hpos := ri hr
 go_enter Tryz.func54, Tryz.ntmps54
 go_wp2_with fail
 go_quiet (first | (go_at_call_of 96 (Value.int IntKind.i64 x); refine Calls.quiet_of (ek x y _ hx hy)) | (go_at_call 96; refine Calls.quiet_of (ek _ z _ ?_ hz); omega))
 have hz0 : (gI x y z == 0) = false := by simp; omega
 have hgi : ((Int.gcd ((Int.gcd x y : Nat) : Int) z : Nat) : Int) = gI x y z := rfl
 rw [hgi]
 clear hgi
 generalize hge : gI x y z = g at hpos hz0 ⊢
 have HG := yz hge
 clear hge
 have va : av (((w.alloc (.cells #[.int .i64 x, .int .i64 y, .int .i64 z] 33)).alloc (.cells #[.int .i64 0, .int .i64 0, .int .i64 0] 33)).drewN nq) w.heap.size x y z := ((aw w x y z _).alloc (by simp) _)
 have vr : av (((w.alloc (.cells #[.int .i64 x, .int .i64 y, .int .i64 z] 33)).alloc (.cells #[.int .i64 0, .int .i64 0, .int .i64 0] 33)).drewN nq) (w.heap.size + 1) 0 0 0 := (by simpa using aw (w.alloc (.cells #[.int .i64 x, .int .i64 y, .int .i64 z] 33)) 0 0 0 33 : av ((w.alloc (.cells #[.int .i64 x, .int .i64 y, .int .i64 z] 33)).alloc (.cells #[.int .i64 0, .int .i64 0, .int .i64 0] 33)) (w.heap.size + 1) 0 0 0)
 have fr : bd (((w.alloc (.cells #[.int .i64 x, .int .i64 y, .int .i64 z] 33)).alloc (.cells #[.int .i64 0, .int .i64 0, .int .i64 0] 33)).drewN nq) (w.heap.size + 1) := (by simpa using aV (w.alloc (.cells #[.int .i64 x, .int .i64 y, .int .i64 z] 33)) 0 0 0 33 : bd ((w.alloc (.cells #[.int .i64 x, .int .i64 y, .int .i64 z] 33)).alloc (.cells #[.int .i64 0, .int .i64 0, .int .i64 0] 33)) (w.heap.size + 1))
 have hB : Below w.heap.size w (((w.alloc (.cells #[.int .i64 x, .int .i64 y, .int .i64 z] 33)).alloc (.cells #[.int .i64 0, .int .i64 0, .int .i64 0] 33)).drewN nq) := ak (be _ _ _) (bk _ _)
 generalize ((w.alloc (.cells #[.int .i64 x, .int .i64 y, .int .i64 z] 33)).alloc (.cells #[.int .i64 0, .int .i64 0, .int .i64 0] 33)).drewN nq = w1 at va vr fr hB ⊢
 obtain ⟨ca0, ca1, ca2⟩ := va
 obtain ⟨cr0, cr1, cr2⟩ := vr
 obtain ⟨fr0, fr1, fr2⟩ := fr
 clear hg1 hx hy hz hr
 go_wp2_with fail
 go_region
 go_wp2
 exact bodyPost_ret (v := .agg #[.int .i64 (wrap64 (x.tdiv g)), .int .i64 (wrap64 (y.tdiv g)), .int .i64 (wrap64 (z.tdiv g))]) (by simp [results, Tryz.results54, go_sem, cr0, cr1, cr2]) rfl ⟨by rw [yy HG], (aJ hB (by omega) _ _ _).drew⟩
def gS (x y z : Int) : Nat → Int
 | 0 => 0
 | 1 => ((Int.gcd 0 x : Nat) : Int)
 | 2 => ((Int.gcd ((Int.gcd 0 x : Nat) : Int) y : Nat) : Int)
 | _ => ((Int.gcd ((Int.gcd ((Int.gcd 0 x : Nat) : Int) y : Nat) : Int) z : Nat) : Int)
theorem rj {x y z : Int} (k : Nat) (h : (-1000000 ≤ x ∧ x ≤ 1000000) ∧ (-1000000 ≤ y ∧ y ≤ 1000000) ∧ (-1000000 ≤ z ∧ z ≤ 1000000)) : -1000000 ≤ gS x y z k ∧ gS x y z k ≤ 1000000 := by
 have h1 := gn (a := 0) (m := 1000000) (by omega) h.1
 have h2 := gn (m := 1000000) (a := ((Int.gcd 0 x : Nat) : Int)) (by omega) h.2.1
 have h3 := gn (m := 1000000) (a := ((Int.gcd ((Int.gcd 0 x : Nat) : Int) y : Nat) : Int)) (by omega) h.2.2
 match k with
 | 0 => exact ⟨by show (-1000000 : Int) ≤ 0; omega, by show (0 : Int) ≤ 1000000; omega⟩
 | 1 => exact ⟨by show (-1000000 : Int) ≤ ((Int.gcd 0 x : Nat) : Int); omega, h1.2⟩
 | 2 => exact ⟨by show (-1000000 : Int) ≤ ((Int.gcd ((Int.gcd 0 x : Nat) : Int) y : Nat) : Int); omega, h2.2⟩
 | k + 3 => exact ⟨by show (-1000000 : Int) ≤ ((Int.gcd ((Int.gcd ((Int.gcd 0 x : Nat) : Int) y : Nat) : Int) z : Nat) : Int); omega, h3.2⟩
theorem lF (a1 a2 a3 : Int) (w : World) :
  Calls Tryz.prog 111 #[.agg #[.int .i64 a1, .int .i64 a2, .int .i64 a3]] w fun e w' => e = .returned (.agg #[.int .i64 (prI (ax a1 a2 a3) (gI a1 a2 a3) a1), .int .i64 (prI (ax a1 a2 a3) (gI a1 a2 a3) a2), .int .i64 (prI (ax a1 a2 a3) (gI a1 a2 a3) a3)]) ∧ Below w.heap.size w w' := by
 go_enter Tryz.func111, Tryz.ntmps111
 go_wp2_with fail
 refine (bR a1 a2 a3 _).mono ?_
 rintro e w1 ⟨rfl, hB1⟩
 have hB : Below w.heap.size w w1 := ak (be _ _ _) hB1
 have hs : w.heap.size + 2 ≤ w1.heap.size := by have := hB1.size; simpa [Nat.add_assoc] using this
 have va : av w1 w.heap.size a1 a2 a3 := ((by simpa using aw w a1 a2 a3 _ : av _ w.heap.size a1 a2 a3).alloc (by simp) _).kept (by simp; omega) hB1
 have vr : av w1 (w.heap.size + 1) 0 0 0 := (by simpa using aw (w.alloc _) 0 0 0 _ : av _ (w.heap.size + 1) 0 0 0).kept (by simp) hB1
 have fr : bd w1 (w.heap.size + 1) := (by simpa using aV (w.alloc _) 0 0 0 _ : bd _ (w.heap.size + 1)).kept (by simp) hB1
 clear hB1
 have hva := va
 obtain ⟨ca0, ca1, ca2⟩ := va
 have hvr := vr
 have hfr := fr
 obtain ⟨cr0, cr1, cr2⟩ := vr
 obtain ⟨fr0, fr1, fr2⟩ := fr
 cases ha : ax a1 a2 a3
 ·go_wp2_with fail
  exact bodyPost_ret (v := .agg #[.int .i64 0, .int .i64 0, .int .i64 0]) (by simp [results, Tryz.results111, go_sem, cr0, cr1, cr2]) rfl ⟨by simp [prI, ha], aJ hB (by omega) _ _ _⟩
 ·go_wp2_with fail
  refine (iH a1 a2 a3 _).mono ?_
  rintro e w2 ⟨rfl, hB2⟩
  have va := hva.kept (by omega) hB2
  have vr := hvr.kept (by omega) hB2
  have fr := hfr.kept (by omega) hB2
  replace hs : w.heap.size + 2 ≤ w2.heap.size := by have := hB2.size; omega
  replace hB : Below w.heap.size w w2 := ak hB hB2
  clear hB2 hva hvr hfr ca0 ca1 ca2 cr0 cr1 cr2 fr0 fr1 fr2
  have i0 : ∀ w : World, (Instr.index 104 (.agg #[.int .i64 a1, .int .i64 a2, .int .i64 a3]) (.int .i64 0)).run Tryz.prog w = .ok (.int .i64 a1) w := fun _ => by kernel_rfl
  have i1 : ∀ w : World, (Instr.index 104 (.agg #[.int .i64 a1, .int .i64 a2, .int .i64 a3]) (.int .i64 1)).run Tryz.prog w = .ok (.int .i64 a2) w := fun _ => by kernel_rfl
  have i2 : ∀ w : World, (Instr.index 104 (.agg #[.int .i64 a1, .int .i64 a2, .int .i64 a3]) (.int .i64 2)).run Tryz.prog w = .ok (.int .i64 a3) w := fun _ => by kernel_rfl
  have HR := yz (bv.1 ha).1
  have HP := yz (ri ha)
  go_wp2_with fail
  go_loopw [3, 12] (fun u i wr => ∃ (k n : Nat), k ≤ 3 ∧ i = .int .i64 k ∧ u = .int .i64 (gS a1 a2 a3 k) ∧ wr = w2.drewN n) (fun _ i _ => 3 - (intOf i).toNat)
  case atStart => exact ⟨0, 0, by omega, rfl, rfl, rfl⟩
  case round =>
   obtain ⟨k, n, hk, rfl, rfl, rfl⟩ := hrel
   have hk4 : k = 0 ∨ k = 1 ∨ k = 2 ∨ k = 3 := by omega
   rcases hk4 with rfl | rfl | rfl | rfl
   ·go_wp2_with fail
    refine (dg _ a1 _ (rj 0 (yy HR)) (yy HR).1).mono ?_
    rintro e w3 ⟨rfl, m, rfl⟩
    go_wp2_with fail
    go_roundw
    case rel => exact ⟨1, n + m, by omega, rfl, rfl, by simp⟩
    case measure => simp [intOf]
   ·go_wp2_with fail
    refine (dg _ a2 _ (rj 1 (yy HR)) (yy HR).2.1).mono ?_
    rintro e w3 ⟨rfl, m, rfl⟩
    go_wp2_with fail
    go_roundw
    case rel => exact ⟨2, n + m, by omega, rfl, rfl, by simp⟩
    case measure => simp [intOf]
   ·go_wp2_with fail
    refine (dg _ a3 _ (rj 2 (yy HR)) (yy HR).2.2).mono ?_
    rintro e w3 ⟨rfl, m, rfl⟩
    go_wp2_with fail
    go_roundw
    case rel => exact ⟨3, n + m, by omega, rfl, rfl, by simp⟩
    case measure => simp [intOf]
   ·have hgs : gS a1 a2 a3 3 = gI a1 a2 a3 := qk a1 a2 a3
    rw [hgs]
    clear hgs
    have hpos := yy HP
    have hz0 : (gI a1 a2 a3 == 0) = false := by simp; omega
    generalize hge : gI a1 a2 a3 = g at hpos hz0 ⊢
    have HG := yz hge
    clear hge i0 i1 i2
    have va' : av (w2.drewN n) w.heap.size a1 a2 a3 := va
    have vr' : av (w2.drewN n) (w.heap.size + 1) 0 0 0 := vr
    have fr' : bd (w2.drewN n) (w.heap.size + 1) := fr
    have hB' : Below w.heap.size w (w2.drewN n) := ak hB (bk _ _)
    clear va vr fr hB hs
    go_wp2_with fail
    generalize w2.drewN n = w3 at va' vr' fr' hB' ⊢
    obtain ⟨ca0, ca1, ca2⟩ := va'
    obtain ⟨cr0, cr1, cr2⟩ := vr'
    obtain ⟨fr0, fr1, fr2⟩ := fr'
    go_region
    go_wp2
    exact bodyPost_ret (v := .agg #[.int .i64 (wrap64 (a1.tdiv g)), .int .i64 (wrap64 (a2.tdiv g)), .int .i64 (wrap64 (a3.tdiv g))]) (by simp [results, Tryz.results111, go_sem, cr0, cr1, cr2]) rfl ⟨by rw [yy HG]; simp [prI, ha], (aJ hB' (by omega) _ _ _).drew⟩
end
section
open Go.RowKit Go.Sort
theorem rM (a1 a2 a3 b1 b2 b3 : Int) : fw a1 a2 a3 b1 b2 b3 = (eqB (crI (ax a1 a2 a3 && ax b1 b2 b3) a2 a3 b2 b3) (crI (ax a1 a2 a3 && ax b1 b2 b3) a3 a1 b3 b1) (crI (ax a1 a2 a3 && ax b1 b2 b3) a1 a2 b1 b2) 0 0 0 && decide (0 < lV a1 a2 a3 b1 b2 b3)) := by
 unfold fw crI lV
 cases h : (ax a1 a2 a3 && ax b1 b2 b3)
 ·simp
 ·simp [eqB, kP]
theorem nO (a1 a2 a3 b1 b2 b3 : Int) (w : World) :
  Calls Tryz.prog 116 #[.agg #[.int .i64 a1, .int .i64 a2, .int .i64 a3], .agg #[.int .i64 b1, .int .i64 b2, .int .i64 b3]] w fun e w' => e = .returned (.bool (fw a1 a2 a3 b1 b2 b3)) ∧ Below w.heap.size w w' := by
 have HS := yz (rM a1 a2 a3 b1 b2 b3)
 go_enter Tryz.func116, Tryz.ntmps116
 go_wp2_with fail
 refine (qf a1 a2 a3 b1 b2 b3 _).mono ?_
 rintro e w1 ⟨rfl, hB1⟩
 have hB : Below w.heap.size w w1 := ak (be _ _ _) hB1
 have va : av w1 w.heap.size a1 a2 a3 := ((aw w a1 a2 a3 _).alloc (by simp) _).kept (by simp; omega) hB1
 have vb : av w1 (w.heap.size + 1) b1 b2 b3 := (by simpa using aw (w.alloc _) b1 b2 b3 _ : av _ (w.heap.size + 1) b1 b2 b3).kept (by simp) hB1
 clear hB1
 obtain ⟨ca0, ca1, ca2⟩ := va
 obtain ⟨cb0, cb1, cb2⟩ := vb
 generalize crI (ax a1 a2 a3 && ax b1 b2 b3) a2 a3 b2 b3 = x at HS ⊢
 generalize crI (ax a1 a2 a3 && ax b1 b2 b3) a3 a1 b3 b1 = y at HS ⊢
 generalize crI (ax a1 a2 a3 && ax b1 b2 b3) a1 a2 b1 b2 = z at HS ⊢
 have he := fun w => py x y z 0 0 0 w
 cases hz : eqB x y z 0 0 0
 ·rw [hz] at he HS
  go_wp2_with fail
  go_ret
  exact ⟨by rw [yy HS]; rfl, hB⟩
 ·rw [hz] at he HS
  go_wp2_with fail
  refine (lW a1 a2 a3 b1 b2 b3 _).mono ?_
  rintro e w2 ⟨rfl, hB2⟩
  replace hB := ak hB hB2
  go_wp2_with fail
  go_ret
  exact ⟨by rw [yy HS, Bool.true_and]; rfl, hB⟩
theorem nw (a1 a2 a3 b1 b2 b3 : Int) (w : World) :
  Calls Tryz.prog 55 #[.agg #[.int .i64 a1, .int .i64 a2, .int .i64 a3], .agg #[.int .i64 b1, .int .i64 b2, .int .i64 b3]] w fun e w' => e = .returned (.bool (eqB (crW a2 a3 b2 b3) (crW a3 a1 b3 b1) (crW a1 a2 b1 b2) 0 0 0 && decide (0 < aR a1 a2 a3 b1 b2 b3))) ∧ Below w.heap.size w w' := by
 go_enter Tryz.func55, Tryz.ntmps55
 go_wp2_with fail
 refine (mg a1 a2 a3 b1 b2 b3 _).mono ?_
 rintro e w1 ⟨rfl, hB1⟩
 have hB : Below w.heap.size w w1 := ak (be _ _ _) hB1
 have va : av w1 w.heap.size a1 a2 a3 := ((aw w a1 a2 a3 _).alloc (by simp) _).kept (by simp; omega) hB1
 have vb : av w1 (w.heap.size + 1) b1 b2 b3 := (by simpa using aw (w.alloc _) b1 b2 b3 _ : av _ (w.heap.size + 1) b1 b2 b3).kept (by simp) hB1
 clear hB1
 obtain ⟨ca0, ca1, ca2⟩ := va
 obtain ⟨cb0, cb1, cb2⟩ := vb
 have he := fun w => py (crW a2 a3 b2 b3) (crW a3 a1 b3 b1) (crW a1 a2 b1 b2) 0 0 0 w
 cases hz : eqB (crW a2 a3 b2 b3) (crW a3 a1 b3 b1) (crW a1 a2 b1 b2) 0 0 0
 ·rw [hz] at he
  go_wp2_with fail
  go_ret
  exact ⟨by rw [hz]; rfl, hB⟩
 ·rw [hz] at he
  go_wp2_with fail
  refine (dD a1 a2 a3 b1 b2 b3 _).mono ?_
  rintro e w2 ⟨rfl, hB2⟩
  replace hB := ak hB hB2
  go_wp2_with fail
  go_ret
  exact ⟨by rw [hz, Bool.true_and]; rfl, hB⟩
end
section
open Go.RowKit
def dA (w : World) (b o : Nat) (s : St) : Prop := w.cell? ⟨b, o, none⟩ = some (.int .i64 s.1) ∧ w.cell? ⟨b, o + 1, none⟩ = some (.int .i64 s.2.1) ∧ w.cell? ⟨b, o + 2, none⟩ = some (.int .i64 s.2.2.1) ∧ w.cell? ⟨b, o + 3, none⟩ = some (.int .i64 s.2.2.2)
def aA (w : World) (a : Option Addr) (L : List St) (n : Nat) : Prop := n = 0 ∨ ∃ b o, a = some ⟨b, o, none⟩ ∧ b < w.heap.size ∧ ∀ i, i < n → dA w b (o + i * 4) (stA L i)
theorem dA.kept {w w' : World} {b o : Nat} {s : St} (h : dA w b o s) (hb : b < w.heap.size) (hB : Below w.heap.size w w') : dA w' b o s := by
 obtain ⟨h0, h1, h2, h3⟩ := h
 exact ⟨by rw [hB.cell (p := ⟨b, o, none⟩) hb]; exact h0, by rw [hB.cell (p := ⟨b, o + 1, none⟩) hb]; exact h1, by rw [hB.cell (p := ⟨b, o + 2, none⟩) hb]; exact h2, by rw [hB.cell (p := ⟨b, o + 3, none⟩) hb]; exact h3⟩
theorem aA.kept {w w' : World} {a : Option Addr} {L : List St} {n : Nat} (h : aA w a L n) (hB : Below w.heap.size w w') : aA w' a L n := by
 rcases h with h | ⟨b, o, ha, hb, hc⟩
 ·exact .inl h
 ·exact .inr ⟨b, o, ha, Nat.lt_of_lt_of_le hb hB.size, fun i hi => (hc i hi).kept hb hB⟩
theorem vlt {w : World} {b : Nat} {x y z : Int} (h : av w b x y z) : b < w.heap.size := World.block_lt_of_cell? w _ h.1
theorem aA.less {w : World} {a : Option Addr} {L : List St} {n m : Nat} (h : aA w a L n) (hm : m ≤ n) : aA w a L m := by
 rcases h with h | ⟨b, o, ha, hb, hc⟩
 ·exact .inl (by omega)
 ·exact .inr ⟨b, o, ha, hb, fun i hi => hc i (by omega)⟩
theorem iU (L : List St) (n : Nat) (x y z : Int) (a : Option Addr) (c : Nat) (w : World) (hn : n ≤ 1048576) (hS : aA w a L n) :
  Calls Tryz.prog 112 #[.agg #[.int .i64 x, .int .i64 y, .int .i64 z], .slice a n c] w fun e w' => e = .returned (.bool (dh L (0, x, y, z) n)) ∧ Below w.heap.size w w' := by
 rcases hS with rfl | ⟨b, o, rfl, hb, hc⟩
 ·go_enter Tryz.func112, Tryz.ntmps112
  go_wp2_with fail
  refine wp_loop_rounds 1 ?_
  rw [rounds_succ]
  go_wp2_with fail
  go_ret
  exact ⟨rfl, am _ _⟩
 ·have HC := yz hc
  clear hc
  have V0 := yz (aw w x y z 33)
  have B0 := yz (am w (.cells #[.int .i64 x, .int .i64 y, .int .i64 z] 33))
  go_enter Tryz.func112, Tryz.ntmps112
  go_wp2_with fail
  go_loopw [9] (fun i wr => ∃ k : Nat, k ≤ n ∧ i = .int .i64 k ∧ Hid (iv L (0, x, y, z) k) ∧ Hid (Below w.heap.size w wr) ∧ Hid (av wr w.heap.size x y z)) (fun i _ => n - (intOf i).toNat)
  case atStart => exact ⟨0, by omega, rfl, yz (fun j hj => absurd hj (Nat.not_lt_zero _)), B0, V0⟩
  case round =>
   obtain ⟨k, hk, rfl, HF, HB, HV⟩ := hrel
   by_cases hkn : k < n
   ·obtain ⟨⟨s1, s2, s3, s4⟩, hs⟩ : ∃ s, stA L k = s := ⟨_, rfl⟩
    have hst := ((yy HC) k hkn).kept hb (yy HB)
    rw [hs] at hst
    obtain ⟨c0, c1, c2, c3⟩ := hst
    have HS := yz hs
    clear hs
    have V1 := yz (av.alloc (yy HV) (vlt (yy HV)) (.cells #[.int .i64 s1, .int .i64 s2, .int .i64 s3, .int .i64 s4] 62))
    have B1 := yz ((yy HB).alloc (yy HB).size (.cells #[.int .i64 s1, .int .i64 s2, .int .i64 s3, .int .i64 s4] 62))
    obtain ⟨v0, v1, v2⟩ := yy V1
    go_wp2_with fail
    refine (nO x y z s2 s3 s4 _).mono ?_
    rintro e w2 ⟨rfl, hx⟩
    have HV2 := yz ((yy V1).kept (vlt (yy V1)) hx)
    have HB2 := yz (ak (yy B1) hx)
    clear hx c0 c1 c2 c3 v0 v1 v2 V1 B1 HB HV
    have HR : Hid (lI (0, x, y, z) (stA L k) = fw x y z s2 s3 s4) := yz (by rw [yy HS]; rfl)
    cases hq : fw x y z s2 s3 s4
    ·rw [hq] at HR
     go_wp2_with fail
     go_roundw
     case rel => exact ⟨k + 1, by omega, by go_num, yz (lx (yy HF) (yy HR)), HB2, HV2⟩
     case measure => simp [intOf]; omega
    ·rw [hq] at HR
     go_wp2_with fail
     go_ret
     exact ⟨by rw [lN hkn (yy HR)]; rfl, yy HB2⟩
   ·have hkn' : k = n := by omega
    subst hkn'
    go_wp2_with fail
    go_ret
    exact ⟨by rw [kJ (yy HF)]; rfl, yy HB⟩
end
section
open Go.RowKit Go.Sort
def rZ : ByteArray := ⟨#[97, 110, 32, 73, 100, 32, 105, 115, 32, 110, 111, 116, 32, 49, 32, 116, 111, 32, 57, 57, 57, 57]⟩
def sV : ByteArray := ⟨#[116, 104, 101, 32, 73, 100, 115, 32, 97, 114, 101, 32, 110, 111, 116, 32, 114, 105, 115, 105, 110, 103]⟩
def om : ByteArray := ⟨#[97, 32, 115, 116, 97, 114, 32, 105, 115, 32, 97, 116, 32, 110, 111, 32, 115, 109, 97, 108, 108, 32, 100, 105, 114, 101, 99, 116, 105, 111, 110, 32, 116, 104, 97, 116, 32, 105, 115, 32, 105, 116, 115, 32, 111, 119, 110, 32, 112, 114, 105, 109, 101]⟩
def pp : ByteArray := ⟨#[116, 119, 111, 32, 115, 116, 97, 114, 115, 32, 97, 114, 101, 32, 116, 104, 101, 32, 115, 97, 109, 101, 32, 119, 97, 121]⟩
def pS : ByteArray := ⟨#[116, 104, 101, 114, 101, 32, 97, 114, 101, 32, 116, 111, 111, 32, 109, 97, 110, 121, 32, 115, 116, 97, 114, 115]⟩
def aY (why : ByteArray) : Value := .iface 112 (.agg #[.string why])
def dw (L : List St) (i : Nat) : Value :=
 if idB (stA L i).1 = false then aY rZ else if upB L i = false then aY sV
 else if (aF (stA L i).2.1 (stA L i).2.2.1 (stA L i).2.2.2 && cy (stA L i).2.1 (stA L i).2.2.1 (stA L i).2.2.2) = false then aY om
 else if dh L (stA L i) i = true then aY pp else .nilIface
theorem sK {L : List St} {i : Nat} (h : cx L i = true) : dw L i = .nilIface := by
 unfold cx at h
 simp only [Bool.and_eq_true, Bool.not_eq_true'] at h
 obtain ⟨⟨⟨h1, h2⟩, h3, h4⟩, h5⟩ := h
 unfold dw
 simp [h1, h2, h3, h4, h5]
theorem pT {L : List St} {i : Nat} (h : cx L i = false) : ∃ why, dw L i = aY why := by
 unfold dw
 split
 ·exact ⟨_, rfl⟩
 ·split
  ·exact ⟨_, rfl⟩
  ·split
   ·exact ⟨_, rfl⟩
   ·split
    ·exact ⟨_, rfl⟩
    ·rename_i h1 h2 h3 h4
     exfalso
     simp only [Bool.not_eq_false, Bool.not_eq_true] at h1 h2 h3 h4
     unfold cx at h
     rw [h1, h2, h3, h4] at h
     simp at h
theorem bQ (w : World) (s : St) (t : TypeId) : dA (w.alloc (.cells #[.int .i64 s.1, .int .i64 s.2.1, .int .i64 s.2.2.1, .int .i64 s.2.2.2] t)) w.heap.size 0 s := by
 refine ⟨?_, ?_, ?_, ?_⟩ <;> simp
theorem lf (L : List St) (i : Nat) (s1 s2 s3 s4 : Int) (a : Option Addr) (c : Nat) (w : World) (hi : i ≤ 1048576) (hs : stA L i = (s1, s2, s3, s4)) (hS : aA w a L i) :
  Calls Tryz.prog 95 #[.agg #[.int .i64 s1, .int .i64 s2, .int .i64 s3, .int .i64 s4], .slice a i c] w fun e w' => e = .returned (dw L i) ∧ Below w.heap.size w w' := by
 have HS := yz hs
 clear hs
 have HA := yz hS
 clear hS
 have HB := yz (am w (.cells #[.int .i64 s1, .int .i64 s2, .int .i64 s3, .int .i64 s4] 62))
 have HN := yz (bQ w (s1, s2, s3, s4) 62)
 by_cases h1 : s1 < 1
 ·have HO : Hid (dw L i = aY rZ) := yz (by unfold dw; rw [if_pos (by rw [yy HS]; unfold idB; simp; omega)])
  go_enter Tryz.func95, Tryz.ntmps95
  go_wp2
  go_ret
  exact ⟨by rw [yy HO]; rfl, yy HB⟩
 by_cases h2 : 9999 < s1
 ·have HO : Hid (dw L i = aY rZ) := yz (by unfold dw; rw [if_pos (by rw [yy HS]; unfold idB; simp; omega)])
  go_enter Tryz.func95, Tryz.ntmps95
  go_wp2
  go_ret
  exact ⟨by rw [yy HO]; rfl, yy HB⟩
 have K0 : Hid (¬ idB (stA L i).1 = false) := yz (by rw [yy HS]; unfold idB; simp; omega)
 by_cases hu : upB L i = false
 ·have HO : Hid (dw L i = aY sV) := yz (by unfold dw; rw [if_neg (yy K0), if_pos hu])
  obtain ⟨j, rfl⟩ : ∃ j, i = j + 1 := ⟨i - 1, by unfold upB at hu; simp at hu; omega⟩
  obtain ⟨⟨p1, p2, p3, p4⟩, hp⟩ : ∃ s, stA L j = s := ⟨_, rfl⟩
  have hle : s1 ≤ p1 := by unfold upB at hu; rw [yy HS] at hu; simp [hp] at hu; omega
  rcases yy HA with h0 | ⟨b, o, rfl, hb, hc⟩
  ·omega
  have hst := (hc j (by omega)).kept hb (yy HB)
  rw [hp] at hst
  obtain ⟨c0, _, _, _⟩ := hst
  have hj1 : (j : Int) + 1 - 1 = (j : Int) := by omega
  have hj2 : (0 : Int) < (j : Int) + 1 := by omega
  clear hu hp hc
  go_enter Tryz.func95, Tryz.ntmps95
  go_wp2_with fail
  go_quiet (fail)
  go_wp2_with fail
  go_ret
  exact ⟨by rw [yy HO]; rfl, ak (yy HB) (bk _ _)⟩
 have K1 := yz hu
 clear hu
 rcases Nat.eq_zero_or_pos i with hi0 | hi0
 ·subst hi0
  go_enter Tryz.func95, Tryz.ntmps95
  go_wp2_with fail
  go_quiet (fail)
  go_wp2_with fail
  have hx := ak (yy HB) (bk (w.alloc (.cells #[.int .i64 s1, .int .i64 s2, .int .i64 s3, .int .i64 s4] 62)) nq)
  have hn' := (yy HN).kept (by simp) (bk _ nq)
  generalize (w.alloc (.cells #[.int .i64 s1, .int .i64 s2, .int .i64 s3, .int .i64 s4] 62)).drewN nq = W1 at hx hn' ⊢
  have HB1 := yz hx
  have HN1 := yz hn'
  clear hx hn' HB HN
  obtain ⟨_, c1, c2, c3⟩ := yy HN1
  simp only [Nat.zero_add] at c1 c2 c3
  have r1 := cell_regrown c1
  have r2 := cell_regrown c2
  have r3 := cell_regrown c3
  clear c1 c2 c3
  cases hsm : aF s2 s3 s4
  ·have HO : Hid (dw L 0 = aY om) := yz (by unfold dw; rw [if_neg (yy K0), if_neg (yy K1), if_pos (by rw [yy HS]; simp [hsm])])
   have cS : Hid (∀ W : World, Calls Tryz.prog 67 #[.agg #[.int .i64 s2, .int .i64 s3, .int .i64 s4]] W fun e w' => e = .returned (.bool false) ∧ Below W.heap.size W w') := yz (fun W => (dj s2 s3 s4 W).mono fun e w' h => ⟨by rw [h.1, hsm], h.2⟩)
   clear hsm
   refine wp_region_quiet_below (by kernel_rfl) (by kernel_rfl) ?_
   repeat (quiet_step (first | (with_reducible exact Calls.regrown_of (yy cS _))))
   refine wpQuiet_nil ?_
   intro _ hw'
   obtain ⟨⟨dq, osq⟩, hw''⟩ := hw'
   subst hw''
   have hx := ak (yy HB1) (below_regrown W1 dq osq)
   go_wp2_with fail
   go_ret
   exact ⟨by rw [yy HO]; rfl, hx⟩
  ·have cS : Hid (∀ W : World, Calls Tryz.prog 67 #[.agg #[.int .i64 s2, .int .i64 s3, .int .i64 s4]] W fun e w' => e = .returned (.bool true) ∧ Below W.heap.size W w') := yz (fun W => (dj s2 s3 s4 W).mono fun e w' h => ⟨by rw [h.1, hsm], h.2⟩)
   have cP := yz (fun W => lF s2 s3 s4 W)
   have hq := fun W => fL s2 s3 s4 (prI (ax s2 s3 s4) (gI s2 s3 s4) s2) (prI (ax s2 s3 s4) (gI s2 s3 s4) s3) (prI (ax s2 s3 s4) (gI s2 s3 s4) s4) W
   have hq2 : eqB s2 s3 s4 (prI (ax s2 s3 s4) (gI s2 s3 s4) s2) (prI (ax s2 s3 s4) (gI s2 s3 s4) s3) (prI (ax s2 s3 s4) (gI s2 s3 s4) s4) = cy s2 s3 s4 := rfl
   rw [hq2] at hq
   clear hq2
   generalize prI (ax s2 s3 s4) (gI s2 s3 s4) s2 = t2 at cP hq
   generalize prI (ax s2 s3 s4) (gI s2 s3 s4) s3 = t3 at cP hq
   generalize prI (ax s2 s3 s4) (gI s2 s3 s4) s4 = t4 at cP hq
   cases hpr : cy s2 s3 s4
   ·have HO : Hid (dw L 0 = aY om) := yz (by unfold dw; rw [if_neg (yy K0), if_neg (yy K1), if_pos (by rw [yy HS]; simp [hpr])])
    rw [hpr] at hq
    refine wp_region_quiet_below (by kernel_rfl) (by kernel_rfl) ?_
    repeat (quiet_step (first | (with_reducible exact Calls.regrown_of (yy cS _)) | (with_reducible exact Calls.regrown_of (yy cP _))))
    refine wpQuiet_nil ?_
    intro _ hw'
    obtain ⟨⟨dq, osq⟩, hw''⟩ := hw'
    subst hw''
    have hx := below_regrown W1 dq osq
    replace hx := ak (yy HB1) hx
    go_wp2_with fail
    go_ret
    exact ⟨by rw [yy HO]; rfl, hx⟩
   ·have K2 : Hid (¬ (aF (stA L 0).2.1 (stA L 0).2.2.1 (stA L 0).2.2.2 && cy (stA L 0).2.1 (stA L 0).2.2.1 (stA L 0).2.2.2) = false) := yz (by rw [yy HS]; simp [hsm, hpr])
    clear hsm
    rw [hpr] at hq
    refine wp_region_quiet_below (by kernel_rfl) (by kernel_rfl) ?_
    repeat (quiet_step (first | (with_reducible exact Calls.regrown_of (yy cS _)) | (with_reducible exact Calls.regrown_of (yy cP _))))
    refine wpQuiet_nil ?_
    intro _ hw'
    obtain ⟨⟨dq, osq⟩, hw''⟩ := hw'
    subst hw''
    have hx := below_regrown W1 dq osq
    have hn2 := (yy HN1).kept (World.block_lt_of_cell? _ _ (yy HN1).1) hx
    have hb2 := ak (yy HB1) hx
    generalize grow (redrawn W1 dq) osq = W2 at hx hn2 hb2 ⊢
    have HB2 := yz hb2
    clear hx hb2 r1 r2 r3 hq cS cP HN1 HB1
    obtain ⟨_, c1, c2, c3⟩ := hn2
    simp only [Nat.zero_add] at c1 c2 c3
    go_wp2_with fail
    refine (iU L 0 s2 s3 s4 _ _ _ hi ((yy HA).kept (yy HB2))).mono ?_
    rintro e w3 ⟨rfl, hx⟩
    replace hx := ak (yy HB2) hx
    clear HB2 c1 c2 c3
    have ht : dh L (0, s2, s3, s4) 0 = dh L (stA L 0) 0 := by rw [yy HS]; rfl
    rw [ht]
    clear ht
    cases htk : dh L (stA L 0) 0
    ·have HO : Hid (dw L 0 = .nilIface) := yz (by unfold dw; rw [if_neg (yy K0), if_neg (yy K1), if_neg (yy K2), if_neg (by rw [htk]; simp)])
     go_wp2_with fail
     go_ret
     exact ⟨by rw [yy HO]; rfl, hx⟩
    ·have HO : Hid (dw L 0 = aY pp) := yz (by unfold dw; rw [if_neg (yy K0), if_neg (yy K1), if_neg (yy K2), if_pos htk])
     go_wp2_with fail
     go_ret
     exact ⟨by rw [yy HO]; rfl, hx⟩
 ·obtain ⟨j, rfl⟩ : ∃ j, i = j + 1 := ⟨i - 1, by omega⟩
  obtain ⟨⟨p1, p2, p3, p4⟩, hp⟩ : ∃ s, stA L j = s := ⟨_, rfl⟩
  have hle : p1 < s1 := by have hu := yy K1; unfold upB at hu; rw [yy HS] at hu; simp [hp] at hu; omega
  rcases yy HA with h0 | ⟨b, o, rfl, hb, hc⟩
  ·omega
  have hst := (hc j (by omega)).kept hb (yy HB)
  rw [hp] at hst
  obtain ⟨c0, _, _, _⟩ := hst
  have hj1 : (j : Int) + 1 - 1 = (j : Int) := by omega
  have hj2 : (0 : Int) < (j : Int) + 1 := by omega
  clear hp hc
  go_enter Tryz.func95, Tryz.ntmps95
  go_wp2_with fail
  go_quiet (fail)
  go_wp2_with fail
  clear c0
  have hx := ak (yy HB) (bk (w.alloc (.cells #[.int .i64 s1, .int .i64 s2, .int .i64 s3, .int .i64 s4] 62)) nq)
  have hn' := (yy HN).kept (by simp) (bk _ nq)
  generalize (w.alloc (.cells #[.int .i64 s1, .int .i64 s2, .int .i64 s3, .int .i64 s4] 62)).drewN nq = W1 at hx hn' ⊢
  have HB1 := yz hx
  have HN1 := yz hn'
  clear hx hn' HB HN
  obtain ⟨_, c1, c2, c3⟩ := yy HN1
  simp only [Nat.zero_add] at c1 c2 c3
  have r1 := cell_regrown c1
  have r2 := cell_regrown c2
  have r3 := cell_regrown c3
  clear c1 c2 c3
  cases hsm : aF s2 s3 s4
  ·have HO : Hid (dw L (j + 1) = aY om) := yz (by unfold dw; rw [if_neg (yy K0), if_neg (yy K1), if_pos (by rw [yy HS]; simp [hsm])])
   have cS : Hid (∀ W : World, Calls Tryz.prog 67 #[.agg #[.int .i64 s2, .int .i64 s3, .int .i64 s4]] W fun e w' => e = .returned (.bool false) ∧ Below W.heap.size W w') := yz (fun W => (dj s2 s3 s4 W).mono fun e w' h => ⟨by rw [h.1, hsm], h.2⟩)
   clear hsm
   refine wp_region_quiet_below (by kernel_rfl) (by kernel_rfl) ?_
   repeat (quiet_step (first | (with_reducible exact Calls.regrown_of (yy cS _))))
   refine wpQuiet_nil ?_
   intro _ hw'
   obtain ⟨⟨dq, osq⟩, hw''⟩ := hw'
   subst hw''
   have hx := ak (yy HB1) (below_regrown W1 dq osq)
   go_wp2_with fail
   go_ret
   exact ⟨by rw [yy HO]; rfl, hx⟩
  ·have cS : Hid (∀ W : World, Calls Tryz.prog 67 #[.agg #[.int .i64 s2, .int .i64 s3, .int .i64 s4]] W fun e w' => e = .returned (.bool true) ∧ Below W.heap.size W w') := yz (fun W => (dj s2 s3 s4 W).mono fun e w' h => ⟨by rw [h.1, hsm], h.2⟩)
   have cP := yz (fun W => lF s2 s3 s4 W)
   have hq := fun W => fL s2 s3 s4 (prI (ax s2 s3 s4) (gI s2 s3 s4) s2) (prI (ax s2 s3 s4) (gI s2 s3 s4) s3) (prI (ax s2 s3 s4) (gI s2 s3 s4) s4) W
   have hq2 : eqB s2 s3 s4 (prI (ax s2 s3 s4) (gI s2 s3 s4) s2) (prI (ax s2 s3 s4) (gI s2 s3 s4) s3) (prI (ax s2 s3 s4) (gI s2 s3 s4) s4) = cy s2 s3 s4 := rfl
   rw [hq2] at hq
   clear hq2
   generalize prI (ax s2 s3 s4) (gI s2 s3 s4) s2 = t2 at cP hq
   generalize prI (ax s2 s3 s4) (gI s2 s3 s4) s3 = t3 at cP hq
   generalize prI (ax s2 s3 s4) (gI s2 s3 s4) s4 = t4 at cP hq
   cases hpr : cy s2 s3 s4
   ·have HO : Hid (dw L (j + 1) = aY om) := yz (by unfold dw; rw [if_neg (yy K0), if_neg (yy K1), if_pos (by rw [yy HS]; simp [hpr])])
    rw [hpr] at hq
    refine wp_region_quiet_below (by kernel_rfl) (by kernel_rfl) ?_
    repeat (quiet_step (first | (with_reducible exact Calls.regrown_of (yy cS _)) | (with_reducible exact Calls.regrown_of (yy cP _))))
    refine wpQuiet_nil ?_
    intro _ hw'
    obtain ⟨⟨dq, osq⟩, hw''⟩ := hw'
    subst hw''
    have hx := below_regrown W1 dq osq
    replace hx := ak (yy HB1) hx
    go_wp2_with fail
    go_ret
    exact ⟨by rw [yy HO]; rfl, hx⟩
   ·have K2 : Hid (¬ (aF (stA L (j + 1)).2.1 (stA L (j + 1)).2.2.1 (stA L (j + 1)).2.2.2 && cy (stA L (j + 1)).2.1 (stA L (j + 1)).2.2.1 (stA L (j + 1)).2.2.2) = false) := yz (by rw [yy HS]; simp [hsm, hpr])
    clear hsm
    rw [hpr] at hq
    refine wp_region_quiet_below (by kernel_rfl) (by kernel_rfl) ?_
    repeat (quiet_step (first | (with_reducible exact Calls.regrown_of (yy cS _)) | (with_reducible exact Calls.regrown_of (yy cP _))))
    refine wpQuiet_nil ?_
    intro _ hw'
    obtain ⟨⟨dq, osq⟩, hw''⟩ := hw'
    subst hw''
    have hx := below_regrown W1 dq osq
    have hn2 := (yy HN1).kept (World.block_lt_of_cell? _ _ (yy HN1).1) hx
    have hb2 := ak (yy HB1) hx
    generalize grow (redrawn W1 dq) osq = W2 at hx hn2 hb2 ⊢
    have HB2 := yz hb2
    clear hx hb2 r1 r2 r3 hq cS cP HN1 HB1
    obtain ⟨_, c1, c2, c3⟩ := hn2
    simp only [Nat.zero_add] at c1 c2 c3
    go_wp2_with fail
    refine (iU L (j + 1) s2 s3 s4 _ _ _ hi ((yy HA).kept (yy HB2))).mono ?_
    rintro e w3 ⟨rfl, hx⟩
    replace hx := ak (yy HB2) hx
    clear HB2 c1 c2 c3
    have ht : dh L (0, s2, s3, s4) (j + 1) = dh L (stA L (j + 1)) (j + 1) := by rw [yy HS]; rfl
    rw [ht]
    clear ht
    cases htk : dh L (stA L (j + 1)) (j + 1)
    ·have HO : Hid (dw L (j + 1) = .nilIface) := yz (by unfold dw; rw [if_neg (yy K0), if_neg (yy K1), if_neg (yy K2), if_neg (by rw [htk]; simp)])
     go_wp2_with fail
     go_ret
     exact ⟨by rw [yy HO]; rfl, hx⟩
    ·have HO : Hid (dw L (j + 1) = aY pp) := yz (by unfold dw; rw [if_neg (yy K0), if_neg (yy K1), if_neg (yy K2), if_pos htk])
     go_wp2_with fail
     go_ret
     exact ⟨by rw [yy HO]; rfl, hx⟩
def SAt (w : World) (b : Nat) (vs : List Value) : Prop := ∀ i v, vs[i]? = some v → w.cell? ⟨b, i, none⟩ = some v
theorem SAt.lt {w : World} {b : Nat} {v : Value} {vs : List Value} (h : SAt w b (v :: vs)) : b < w.heap.size := World.block_lt_of_cell? w _ (h 0 v rfl)
theorem SAt.kept {w w' : World} {b : Nat} {v : Value} {vs : List Value} (h : SAt w b (v :: vs)) (hB : Below w.heap.size w w') : SAt w' b (v :: vs) := fun i u hu => by
 rw [hB.cell (p := ⟨b, i, none⟩) h.lt]; exact h i u hu
theorem SAt.c3 {w : World} {b : Nat} {x y z : Value} (h : SAt w b [x, y, z]) : w.cell? ⟨b, 0, none⟩ = some x ∧ w.cell? ⟨b, 1, none⟩ = some y ∧ w.cell? ⟨b, 2, none⟩ = some z := ⟨h 0 x rfl, h 1 y rfl, h 2 z rfl⟩
theorem SAt.c5 {w : World} {b : Nat} {x y z u v : Value} (h : SAt w b [x, y, z, u, v]) : w.cell? ⟨b, 0, none⟩ = some x ∧ w.cell? ⟨b, 1, none⟩ = some y ∧ w.cell? ⟨b, 2, none⟩ = some z ∧ w.cell? ⟨b, 3, none⟩ = some u ∧ w.cell? ⟨b, 4, none⟩ = some v := ⟨h 0 x rfl, h 1 y rfl, h 2 z rfl, h 3 u rfl, h 4 v rfl⟩
end
section
open Go.RowKit
theorem rn : ∃ i : TypeInfo, Tryz.prog.info? 5 = some i ∧ i.zero = some (.int .u8 0) ∧ i.size = 1 ∧ i.bytes = 1 := by
 refine ⟨_, rfl, ?_, ?_, ?_⟩ <;> kernel_rfl
theorem mj (n : Nat) (h : n ≤ 281474976710656) : ∃ M : Array Value, M.size = n ∧ ∀ W : World, (Instr.makeSlice 22 (.int .i64 (n : Int)) (.int .i64 (n : Int))).run Tryz.prog W = .ok (.slice (some ⟨W.heap.size, 0, none⟩) n n) (W.alloc (.cells M 5)) := by
 obtain ⟨i0, hi, hz0, hz1, hz2⟩ := rn
 refine ⟨madeCells (Value.int .u8 0).cells (((n : Nat) : Int).toNat * i0.size), by rw [size_madeCells, hz1]; simp, fun W => ?_⟩
 have h := run_make (P := Tryz.prog) W 22 5 i0 (.int .u8 0) Tryz.underlying22 hi hz0 .i64 .i64 (n : Int) (n : Int) (by omega) (by omega) (by rw [hz2]; omega) (by omega)
 simpa using h
theorem dU (w : World) (M Y : Array Value) (T : TypeId) : (w.alloc (.cells M T)).setRow w.heap.size Y = w.alloc (.cells Y T) := by
 unfold World.setRow World.alloc
 congr 1
 apply Array.ext
 ·simp
 ·intro i h1 h2
  have h3 : i < w.heap.size + 1 := by simpa using h2
  simp only [Array.getElem_modify, Array.getElem_push]
  by_cases e : i = w.heap.size
  ·subst e; simp
  ·have h4 : i < w.heap.size := by omega
   simp [Ne.symm e, h4]
theorem fF (w : World) (T : TypeId) (Y : Array Value) (s : ByteArray) (hY : Y.toList = Lib.byteCells s.data.toList) (cap : Nat) :
  (convert 22 9 (.slice (some ⟨w.heap.size, 0, none⟩) s.size cap)).run Tryz.prog (w.alloc (.cells Y T)) = .ok (.string s) (w.alloc (.cells Y T)) := by
 refine Lib.run_convert_whole (P := Tryz.prog) _ 22 5 9 Tryz.underlying22 Tryz.underlying5 Tryz.underlying9 w.heap.size 0 s ?_ cap
 intro i hi
 have hl : Y[i]? = some (.int .u8 (s[i].toNat : Int)) := by
  rw [← Array.getElem?_toList, hY, Lib.byteCells, List.getElem?_map]
  have : s.data.toList[i]? = some s[i] := by rw [Array.getElem?_toList]; exact Array.getElem?_eq_getElem hi
  rw [this]; rfl
 simp [hl]
theorem lT (a : ByteArray) : a ++ ByteArray.empty = a := by
 apply ByteArray.ext
 simp
end
section
end
end Go.Proofs.YthoiooefclbecaaGreatDoor

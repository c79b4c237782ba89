/- Several texts in one: VecJ, VecK, VecL, IdM, Bytes, DecT, DsM, DsA, DsG, RowF, FrB, BlM, WideT. -/
import Derived.Lib.QuietBelow
import Derived.Test.YtlleafjdgblhcaaGreatDoorRows
import Derived.WalkKit
import Derived.WalkSpells
import Derived.WalkLawsBesides
import Derived.Lib.BufferWrite
import Derived.Lib.SlBytesRow
import Derived.Lib.ItoaMem
import Derived.Lib.ItoaNum
import Derived.Lib.Split
import Derived.Lib.SplitLaws
import Derived.Lib.IndexLaws
import Derived.Lib.IndexBytes
import Derived.OwnWalk
import Derived.Laws.OwnMore
import Derived.Test.YtlleafjdgblhcaaGreatDoorQDeskRunOwn2
import Derived.Test.YtlleafjdgblhcaaGreatDoorQDeskRunOwn1
namespace Go.Proofs.YtlleafjdgblhcaaGreatDoor
set_option linter.unusedVariables false
set_option linter.unusedSimpArgs false
set_option maxRecDepth 100000
set_option maxHeartbeats 8000000
section
open Go.RowKit Go.Sort
theorem Calls.regrown_same {P : Program} {f : FuncId} {args : Array Value} {w : World} {d : Nat} {os : Array Obj} {v : Value}
  (h : Calls P f args (grow (redrawn w d) os) fun e w' => e = .returned v ∧ w' = grow (redrawn w d) os) : Calls P f args (grow (redrawn w d) os) fun e w'' => e = .returned v ∧ ∃ p : Regrown, w'' = grow (redrawn w p.d) p.os :=
 h.mono fun _ _ ⟨he, hm⟩ => ⟨he, ⟨d, os⟩, hm⟩
theorem xM (a1 a2 a3 b1 b2 b3 c1 c2 c3 d1 d2 d3 : Int) (w : World) :
  Calls Tryz.prog 192 #[.agg #[.int .i64 a1, .int .i64 a2, .int .i64 a3], .agg #[.int .i64 b1, .int .i64 b2, .int .i64 b3], .agg #[.int .i64 c1, .int .i64 c2, .int .i64 c3], .agg #[.int .i64 d1, .int .i64 d2, .int .i64 d3]] w fun e w' => e = .returned (.int .i64 (nB a1 a2 a3 b1 b2 b3 c1 c2 c3 d1 d2 d3)) ∧ Below w.heap.size w w' := by
 go_enter Tryz.func192, Tryz.ntmps192
 go_wp2_with fail
 refine (jv a1 a2 a3 _).mono ?_
 rintro e w1 ⟨rfl, hB1⟩
 have hB : Below w.heap.size w w1 := ak (Bb _ _ _ _ _) hB1
 have hs : w.heap.size + 4 ≤ w1.heap.size := by have := hB1.size; simpa [Nat.add_assoc] using this
 have va : aG w1 w.heap.size a1 a2 a3 := ((((by simpa using aF w a1 a2 a3 _ : aG _ w.heap.size a1 a2 a3).alloc (by simp <;> omega) _).alloc (by simp <;> omega) _).alloc (by simp <;> omega) _).kept (by simp <;> omega) hB1
 have vb : aG w1 (w.heap.size + 1) b1 b2 b3 := (((by simpa using aF (w.alloc _) b1 b2 b3 _ : aG _ (w.heap.size + 1) b1 b2 b3).alloc (by simp <;> omega) _).alloc (by simp <;> omega) _).kept (by simp <;> omega) hB1
 have vc : aG w1 (w.heap.size + 1 + 1) c1 c2 c3 := ((by simpa using aF ((w.alloc _).alloc _) c1 c2 c3 _ : aG _ (w.heap.size + 1 + 1) c1 c2 c3).alloc (by simp <;> omega) _).kept (by simp <;> omega) hB1
 have vd : aG w1 (w.heap.size + 1 + 1 + 1) d1 d2 d3 := (by simpa using aF (((w.alloc _).alloc _).alloc _) d1 d2 d3 _ : aG _ (w.heap.size + 1 + 1 + 1) d1 d2 d3).kept (by simp <;> omega) hB1
 clear hB1
 have hva := va
 obtain ⟨ca0, ca1, ca2⟩ := va
 have hvb := vb
 obtain ⟨cb0, cb1, cb2⟩ := vb
 have hvc := vc
 obtain ⟨cc0, cc1, cc2⟩ := vc
 have hvd := vd
 obtain ⟨cd0, cd1, cd2⟩ := vd
 cases ha : cz a1 a2 a3
 ·go_wp2_with fail
  go_ret
  exact ⟨by simp [nB, ha], hB⟩
 ·go_wp2_with fail
  refine (jv b1 b2 b3 _).mono ?_
  rintro e w2 ⟨rfl, hB2⟩
  have va := hva.kept (by omega) hB2
  have vb := hvb.kept (by omega) hB2
  have vc := hvc.kept (by omega) hB2
  have vd := hvd.kept (by omega) hB2
  replace hs : w.heap.size + 4 ≤ w2.heap.size := by have := hB2.size; omega
  replace hB : Below w.heap.size w w2 := ak hB hB2
  clear hva ca0 ca1 ca2 hvb cb0 cb1 cb2 hvc cc0 cc1 cc2 hvd cd0 cd1 cd2
  clear hB2
  have hva := va
  obtain ⟨ca0, ca1, ca2⟩ := va
  have hvb := vb
  obtain ⟨cb0, cb1, cb2⟩ := vb
  have hvc := vc
  obtain ⟨cc0, cc1, cc2⟩ := vc
  have hvd := vd
  obtain ⟨cd0, cd1, cd2⟩ := vd
  cases hb : cz b1 b2 b3
  ·go_wp2_with fail
   go_ret
   exact ⟨by simp [nB, hb], hB⟩
  ·go_wp2_with fail
   refine (fp c1 c2 c3 _).mono ?_
   rintro e w3 ⟨rfl, hB3⟩
   have va := hva.kept (by omega) hB3
   have vb := hvb.kept (by omega) hB3
   have vc := hvc.kept (by omega) hB3
   have vd := hvd.kept (by omega) hB3
   replace hs : w.heap.size + 4 ≤ w3.heap.size := by have := hB3.size; omega
   replace hB : Below w.heap.size w w3 := ak hB hB3
   clear hva ca0 ca1 ca2 hvb cb0 cb1 cb2 hvc cc0 cc1 cc2 hvd cd0 cd1 cd2
   clear hB3
   have hva := va
   obtain ⟨ca0, ca1, ca2⟩ := va
   have hvb := vb
   obtain ⟨cb0, cb1, cb2⟩ := vb
   have hvc := vc
   obtain ⟨cc0, cc1, cc2⟩ := vc
   have hvd := vd
   obtain ⟨cd0, cd1, cd2⟩ := vd
   cases hc : aL c1 c2 c3
   ·go_wp2_with fail
    go_ret
    exact ⟨by simp [nB, hc], hB⟩
   ·go_wp2_with fail
    refine (fp d1 d2 d3 _).mono ?_
    rintro e w4 ⟨rfl, hB4⟩
    have va := hva.kept (by omega) hB4
    have vb := hvb.kept (by omega) hB4
    have vc := hvc.kept (by omega) hB4
    have vd := hvd.kept (by omega) hB4
    replace hs : w.heap.size + 4 ≤ w4.heap.size := by have := hB4.size; omega
    replace hB : Below w.heap.size w w4 := ak hB hB4
    clear hva ca0 ca1 ca2 hvb cb0 cb1 cb2 hvc cc0 cc1 cc2 hvd cd0 cd1 cd2
    clear hB4
    have hva := va
    obtain ⟨ca0, ca1, ca2⟩ := va
    have hvb := vb
    obtain ⟨cb0, cb1, cb2⟩ := vb
    have hvc := vc
    obtain ⟨cc0, cc1, cc2⟩ := vc
    have hvd := vd
    obtain ⟨cd0, cd1, cd2⟩ := vd
    cases hd : aL d1 d2 d3
    ·go_wp2_with fail
     go_ret
     exact ⟨by simp [nB, hd], hB⟩
    ·go_wp2_with fail
     have HD := yz (Ep ha hb hc hd)
     have ka0 := cell_regrown ca0
     have ka1 := cell_regrown ca1
     have ka2 := cell_regrown ca2
     have kb0 := cell_regrown cb0
     have kb1 := cell_regrown cb1
     have kb2 := cell_regrown cb2
     have kc0 := cell_regrown cc0
     have kc1 := cell_regrown cc1
     have kc2 := cell_regrown cc2
     have kd0 := cell_regrown cd0
     have kd1 := cell_regrown cd1
     have kd2 := cell_regrown cd2
     refine wp_region_quiet_below (by kernel_rfl) (by kernel_rfl) ?_
     repeat (quiet_step (first | exact Calls.regrown_of (sI _ _ _ _ _ _ _) | exact Calls.regrown_same (pD _ _) | exact Calls.regrown_of (nR _ _ _ _ _ _ _)))
     refine wpQuiet_nil ?_
     intro _ hw'
     obtain ⟨⟨dq, osq⟩, hw''⟩ := hw'
     subst hw''
     have hb' := below_regrown w4 dq osq
     replace hB := ak hB hb'
     have va := hva.kept (by omega) hb'
     have vb := hvb.kept (by omega) hb'
     have vc := hvc.kept (by omega) hb'
     have vd := hvd.kept (by omega) hb'
     clear ca0 ka0 ca1 ka1 ca2 ka2 cb0 kb0 cb1 kb1 cb2 kb2 cc0 kc0 cc1 kc1 cc2 kc2 cd0 kd0 cd1 kd1 cd2 kd2
     generalize grow (redrawn w4 dq) osq = w5 at hB hb' va vb vc vd ⊢
     obtain ⟨ca0, ca1, ca2⟩ := va
     obtain ⟨cb0, cb1, cb2⟩ := vb
     obtain ⟨cc0, cc1, cc2⟩ := vc
     obtain ⟨cd0, cd1, cd2⟩ := vd
     clear hb' hva hvb hvc hvd
     go_wp2_with fail
     have ka0 := cell_regrown ca0
     have ka1 := cell_regrown ca1
     have ka2 := cell_regrown ca2
     have kb0 := cell_regrown cb0
     have kb1 := cell_regrown cb1
     have kb2 := cell_regrown cb2
     have kc0 := cell_regrown cc0
     have kc1 := cell_regrown cc1
     have kc2 := cell_regrown cc2
     have kd0 := cell_regrown cd0
     have kd1 := cell_regrown cd1
     have kd2 := cell_regrown cd2
     refine wp_region_quiet_below (by kernel_rfl) (by kernel_rfl) ?_
     repeat (quiet_step (first | exact Calls.regrown_of (sI _ _ _ _ _ _ _) | exact Calls.regrown_same (pD _ _) | exact Calls.regrown_of (nR _ _ _ _ _ _ _)))
     refine wpQuiet_nil ?_
     intro _ hw'
     obtain ⟨⟨dq, osq⟩, hw''⟩ := hw'
     subst hw''
     replace hB := ak hB (below_regrown w5 dq osq)
     clear ca0 ka0 ca1 ka1 ca2 ka2 cb0 kb0 cb1 kb1 cb2 kb2 cc0 kc0 cc1 kc1 cc2 kc2 cd0 kd0 cd1 kd1 cd2 kd2
     go_wp2_with fail
     refine (ng _ _ _).mono ?_
     rintro e w7 ⟨rfl, rfl⟩
     go_wp2_with fail
     go_ret
     exact ⟨by rw [yy HD]; rfl, hB⟩
theorem aG.in {w : World} {b : Nat} {x y z : Int} (h : aG w b x y z) : b < w.heap.size := World.block_lt_of_cell? w _ h.1
theorem dS (n : Int) (w : World) :
  Calls Tryz.prog 116 #[.int .i64 n] w fun e w' => e = .returned (.int .i64 (sgn n)) ∧ w' = w := by
 by_cases h : n < 0
 ·have HS := yz (show sgn n = -1 by unfold sgn; rw [if_pos h])
  go_enter Tryz.func116, Tryz.ntmps116
  go_wp2
  go_ret
  exact ⟨by rw [yy HS]; rfl, rfl⟩
 ·by_cases h2 : 0 < n
  ·have HS := yz (show sgn n = 1 by unfold sgn; rw [if_neg h, if_pos h2])
   go_enter Tryz.func116, Tryz.ntmps116
   go_wp2
   go_ret
   exact ⟨by rw [yy HS]; rfl, rfl⟩
  ·have HS := yz (show sgn n = 0 by unfold sgn; rw [if_neg h, if_neg h2])
   go_enter Tryz.func116, Tryz.ntmps116
   go_wp2
   go_ret
   exact ⟨by rw [yy HS]; rfl, rfl⟩
theorem xq (a1 a2 a3 b1 b2 b3 c1 c2 c3 d1 d2 d3 : Int) (w : World) :
  Calls Tryz.prog 115 #[.agg #[.int .i64 a1, .int .i64 a2, .int .i64 a3], .agg #[.int .i64 b1, .int .i64 b2, .int .i64 b3], .agg #[.int .i64 c1, .int .i64 c2, .int .i64 c3], .agg #[.int .i64 d1, .int .i64 d2, .int .i64 d3]] w fun e w' => e = .returned (.int .i64 (qm (bx a1 a2 a3 b1 b2 b3) (bx c1 c2 c3 d1 d2 d3) (wrap64 (wrap64 (bx a1 a2 a3 b1 b2 b3 * bx a1 a2 a3 b1 b2 b3) * wrap64 (bx c1 c2 c3 c1 c2 c3 * bx d1 d2 d3 d1 d2 d3))) (wrap64 (wrap64 (bx c1 c2 c3 d1 d2 d3 * bx c1 c2 c3 d1 d2 d3) * wrap64 (bx a1 a2 a3 a1 a2 a3 * bx b1 b2 b3 b1 b2 b3))))) ∧ Below w.heap.size w w' := by
 go_enter Tryz.func115, Tryz.ntmps115
 go_wp2_with fail
 have va : aG ((((w.alloc (.cells #[.int .i64 a1, .int .i64 a2, .int .i64 a3] 58)).alloc (.cells #[.int .i64 b1, .int .i64 b2, .int .i64 b3] 58)).alloc (.cells #[.int .i64 c1, .int .i64 c2, .int .i64 c3] 58)).alloc (.cells #[.int .i64 d1, .int .i64 d2, .int .i64 d3] 58)) w.heap.size a1 a2 a3 := ((((by simpa using aF w a1 a2 a3 58 : aG (w.alloc (.cells #[.int .i64 a1, .int .i64 a2, .int .i64 a3] 58)) w.heap.size a1 a2 a3).alloc (by simp <;> omega) _).alloc (by simp <;> omega) _).alloc (by simp <;> omega) _)
 have vb : aG ((((w.alloc (.cells #[.int .i64 a1, .int .i64 a2, .int .i64 a3] 58)).alloc (.cells #[.int .i64 b1, .int .i64 b2, .int .i64 b3] 58)).alloc (.cells #[.int .i64 c1, .int .i64 c2, .int .i64 c3] 58)).alloc (.cells #[.int .i64 d1, .int .i64 d2, .int .i64 d3] 58)) (w.heap.size + 1) b1 b2 b3 := (((by simpa using aF (w.alloc (.cells #[.int .i64 a1, .int .i64 a2, .int .i64 a3] 58)) b1 b2 b3 58 : aG ((w.alloc (.cells #[.int .i64 a1, .int .i64 a2, .int .i64 a3] 58)).alloc (.cells #[.int .i64 b1, .int .i64 b2, .int .i64 b3] 58)) (w.heap.size + 1) b1 b2 b3).alloc (by simp <;> omega) _).alloc (by simp <;> omega) _)
 have vc : aG ((((w.alloc (.cells #[.int .i64 a1, .int .i64 a2, .int .i64 a3] 58)).alloc (.cells #[.int .i64 b1, .int .i64 b2, .int .i64 b3] 58)).alloc (.cells #[.int .i64 c1, .int .i64 c2, .int .i64 c3] 58)).alloc (.cells #[.int .i64 d1, .int .i64 d2, .int .i64 d3] 58)) (w.heap.size + 1 + 1) c1 c2 c3 := ((by simpa using aF ((w.alloc (.cells #[.int .i64 a1, .int .i64 a2, .int .i64 a3] 58)).alloc (.cells #[.int .i64 b1, .int .i64 b2, .int .i64 b3] 58)) c1 c2 c3 58 : aG (((w.alloc (.cells #[.int .i64 a1, .int .i64 a2, .int .i64 a3] 58)).alloc (.cells #[.int .i64 b1, .int .i64 b2, .int .i64 b3] 58)).alloc (.cells #[.int .i64 c1, .int .i64 c2, .int .i64 c3] 58)) (w.heap.size + 1 + 1) c1 c2 c3).alloc (by simp <;> omega) _)
 have vd : aG ((((w.alloc (.cells #[.int .i64 a1, .int .i64 a2, .int .i64 a3] 58)).alloc (.cells #[.int .i64 b1, .int .i64 b2, .int .i64 b3] 58)).alloc (.cells #[.int .i64 c1, .int .i64 c2, .int .i64 c3] 58)).alloc (.cells #[.int .i64 d1, .int .i64 d2, .int .i64 d3] 58)) (w.heap.size + 1 + 1 + 1) d1 d2 d3 := (by simpa using aF (((w.alloc (.cells #[.int .i64 a1, .int .i64 a2, .int .i64 a3] 58)).alloc (.cells #[.int .i64 b1, .int .i64 b2, .int .i64 b3] 58)).alloc (.cells #[.int .i64 c1, .int .i64 c2, .int .i64 c3] 58)) d1 d2 d3 58 : aG ((((w.alloc (.cells #[.int .i64 a1, .int .i64 a2, .int .i64 a3] 58)).alloc (.cells #[.int .i64 b1, .int .i64 b2, .int .i64 b3] 58)).alloc (.cells #[.int .i64 c1, .int .i64 c2, .int .i64 c3] 58)).alloc (.cells #[.int .i64 d1, .int .i64 d2, .int .i64 d3] 58)) (w.heap.size + 1 + 1 + 1) d1 d2 d3)
 have hB : Below w.heap.size w ((((w.alloc (.cells #[.int .i64 a1, .int .i64 a2, .int .i64 a3] 58)).alloc (.cells #[.int .i64 b1, .int .i64 b2, .int .i64 b3] 58)).alloc (.cells #[.int .i64 c1, .int .i64 c2, .int .i64 c3] 58)).alloc (.cells #[.int .i64 d1, .int .i64 d2, .int .i64 d3] 58)) := Bb _ _ _ _ _
 generalize ((((w.alloc (.cells #[.int .i64 a1, .int .i64 a2, .int .i64 a3] 58)).alloc (.cells #[.int .i64 b1, .int .i64 b2, .int .i64 b3] 58)).alloc (.cells #[.int .i64 c1, .int .i64 c2, .int .i64 c3] 58)).alloc (.cells #[.int .i64 d1, .int .i64 d2, .int .i64 d3] 58)) = w1 at va vb vc vd hB ⊢
 have ha := va
 have hb := vb
 have hc := vc
 have hd := vd
 obtain ⟨ca0, ca1, ca2⟩ := va
 obtain ⟨cb0, cb1, cb2⟩ := vb
 obtain ⟨cc0, cc1, cc2⟩ := vc
 obtain ⟨cd0, cd1, cd2⟩ := vd
 refine (fj a1 a2 a3 b1 b2 b3 _).mono ?_
 rintro e w2 ⟨rfl, hx⟩
 have va := ha.kept (aG.in ha) hx
 have vb := hb.kept (aG.in hb) hx
 have vc := hc.kept (aG.in hc) hx
 have vd := hd.kept (aG.in hd) hx
 replace hB := ak hB hx
 clear ca0 ca1 ca2 cb0 cb1 cb2 cc0 cc1 cc2 cd0 cd1 cd2 ha hb hc hd hx
 have ha := va
 have hb := vb
 have hc := vc
 have hd := vd
 obtain ⟨ca0, ca1, ca2⟩ := va
 obtain ⟨cb0, cb1, cb2⟩ := vb
 obtain ⟨cc0, cc1, cc2⟩ := vc
 obtain ⟨cd0, cd1, cd2⟩ := vd
 go_wp2_with fail
 refine (fj c1 c2 c3 d1 d2 d3 _).mono ?_
 rintro e w3 ⟨rfl, hx⟩
 have va := ha.kept (aG.in ha) hx
 have vb := hb.kept (aG.in hb) hx
 have vc := hc.kept (aG.in hc) hx
 have vd := hd.kept (aG.in hd) hx
 replace hB := ak hB hx
 clear ca0 ca1 ca2 cb0 cb1 cb2 cc0 cc1 cc2 cd0 cd1 cd2 ha hb hc hd hx
 have ha := va
 have hb := vb
 have hc := vc
 have hd := vd
 obtain ⟨ca0, ca1, ca2⟩ := va
 obtain ⟨cb0, cb1, cb2⟩ := vb
 obtain ⟨cc0, cc1, cc2⟩ := vc
 obtain ⟨cd0, cd1, cd2⟩ := vd
 generalize hxe : bx a1 a2 a3 b1 b2 b3 = x
 generalize hye : bx c1 c2 c3 d1 d2 d3 = y
 have HX := yz hxe
 have HY := yz hye
 clear hxe hye
 go_wp2_with fail
 refine (dS x _).mono ?_
 rintro e w3 ⟨rfl, rfl⟩
 go_wp2_with fail
 refine (dS y _).mono ?_
 rintro e w3 ⟨rfl, rfl⟩
 by_cases hs : sgn x = sgn y
 ·have hse : (sgn x == sgn y) = true := by simp [hs]
  go_wp2_with fail
  have kc0 := cell_regrown cc0
  have kc1 := cell_regrown cc1
  have kc2 := cell_regrown cc2
  have kd0 := cell_regrown cd0
  have kd1 := cell_regrown cd1
  have kd2 := cell_regrown cd2
  refine wp_region_quiet_below (by kernel_rfl) (by kernel_rfl) ?_
  repeat (quiet_step (first | exact Calls.regrown_of (fj _ _ _ _ _ _ _) | fail))
  refine wpQuiet_nil ?_
  intro _ hw'
  obtain ⟨⟨dq, osq⟩, hw''⟩ := hw'
  subst hw''
  have hx := below_regrown w3 dq osq
  generalize grow (redrawn w3 dq) osq = w4 at hx ⊢
  clear kc0 kc1 kc2 kd0 kd1 kd2
  have va := ha.kept (aG.in ha) hx
  have vb := hb.kept (aG.in hb) hx
  have vc := hc.kept (aG.in hc) hx
  have vd := hd.kept (aG.in hd) hx
  replace hB := ak hB hx
  clear ca0 ca1 ca2 cb0 cb1 cb2 cc0 cc1 cc2 cd0 cd1 cd2 ha hb hc hd hx
  have ha := va
  have hb := vb
  have hc := vc
  have hd := vd
  obtain ⟨ca0, ca1, ca2⟩ := va
  obtain ⟨cb0, cb1, cb2⟩ := vb
  obtain ⟨cc0, cc1, cc2⟩ := vc
  obtain ⟨cd0, cd1, cd2⟩ := vd
  go_wp2_with fail
  have ka0 := cell_regrown ca0
  have ka1 := cell_regrown ca1
  have ka2 := cell_regrown ca2
  have kb0 := cell_regrown cb0
  have kb1 := cell_regrown cb1
  have kb2 := cell_regrown cb2
  refine wp_region_quiet_below (by kernel_rfl) (by kernel_rfl) ?_
  repeat (quiet_step (first | exact Calls.regrown_of (fj _ _ _ _ _ _ _) | fail))
  refine wpQuiet_nil ?_
  intro _ hw'
  obtain ⟨⟨dq, osq⟩, hw''⟩ := hw'
  subst hw''
  have hx := below_regrown w4 dq osq
  generalize grow (redrawn w4 dq) osq = w5 at hx ⊢
  clear ka0 ka1 ka2 kb0 kb1 kb2
  have va := ha.kept (aG.in ha) hx
  have vb := hb.kept (aG.in hb) hx
  have vc := hc.kept (aG.in hc) hx
  have vd := hd.kept (aG.in hd) hx
  replace hB := ak hB hx
  clear ca0 ca1 ca2 cb0 cb1 cb2 cc0 cc1 cc2 cd0 cd1 cd2 ha hb hc hd hx
  have ha := va
  have hb := vb
  have hc := vc
  have hd := vd
  obtain ⟨ca0, ca1, ca2⟩ := va
  obtain ⟨cb0, cb1, cb2⟩ := vb
  obtain ⟨cc0, cc1, cc2⟩ := vc
  obtain ⟨cd0, cd1, cd2⟩ := vd
  clear ha hb hc hd ca0 ca1 ca2 cb0 cb1 cb2 cc0 cc1 cc2 cd0 cd1 cd2
  simp only [Go.IntWalk.i64_left]
  generalize hpe : wrap64 (wrap64 (x * x) * wrap64 (bx c1 c2 c3 c1 c2 c3 * bx d1 d2 d3 d1 d2 d3)) = p
  generalize hqe : wrap64 (wrap64 (y * y) * wrap64 (bx a1 a2 a3 a1 a2 a3 * bx b1 b2 b3 b1 b2 b3)) = q
  have HP := yz hpe
  have HQ := yz hqe
  have HS := yz hs
  clear hpe hqe
  by_cases h1 : p < q
  ·have HE := yz (show qm x y p q = wrap64 (-sgn x) by unfold qm; rw [if_neg (by simp [hs]), if_pos h1])
   clear hs hse
   go_wp2_with fail
   refine (dS x _).mono ?_
   rintro e w5 ⟨rfl, rfl⟩
   go_wp2_with fail
   go_ret
   exact ⟨by rw [yy HX, yy HY, yy HP, yy HQ, yy HE]; rfl, hB⟩
  ·by_cases h2 : q < p
   ·have HE := yz (show qm x y p q = sgn x by unfold qm; rw [if_neg (by simp [hs]), if_neg h1, if_pos h2])
    clear hs hse
    go_wp2_with fail
    refine (dS x _).mono ?_
    rintro e w5 ⟨rfl, rfl⟩
    go_wp2_with fail
    go_ret
    exact ⟨by rw [yy HX, yy HY, yy HP, yy HQ, yy HE]; rfl, hB⟩
   ·have HE := yz (show qm x y p q = 0 by unfold qm; rw [if_neg (by simp [hs]), if_neg h1, if_neg h2])
    clear hs hse
    go_wp2_with fail
    go_ret
    exact ⟨by rw [yy HX, yy HY, yy HP, yy HQ, yy HE]; rfl, hB⟩
 ·have hse : (sgn x == sgn y) = false := by simp [hs]
  go_wp2_with fail
  refine (dS x _).mono ?_
  rintro e w3 ⟨rfl, rfl⟩
  go_wp2_with fail
  refine (dS y _).mono ?_
  rintro e w3 ⟨rfl, rfl⟩
  go_wp2_with fail
  refine (dS _ _).mono ?_
  rintro e w3 ⟨rfl, rfl⟩
  go_wp2_with fail
  go_ret
  exact ⟨by unfold qm; rw [yy HX, yy HY, if_pos hs]; rfl, hB⟩
theorem yK {p q r P Q : Int} (h1 : -P ≤ p ∧ p ≤ P) (h2 : -Q ≤ q ∧ q ≤ Q) (h3 : -Q ≤ r ∧ r ≤ Q) (k1 : P * P ≤ 9223372036854775807) (k3 : Q * Q ≤ 9223372036854775807) (k4 : (P * P) * (Q * Q) ≤ 9223372036854775807) :
  wrap64 (wrap64 (p * p) * wrap64 (q * r)) = p * p * (q * r) := by
 have m1 := bJ h1 h1
 have m2 := bJ h2 h3
 have m3 := bJ m1 m2
 rw [aq (n := p * p) (by omega) (by omega), aq (n := q * r) (by omega) (by omega), aq (by omega) (by omega)]
theorem Du {a1 a2 a3 b1 b2 b3 c1 c2 c3 d1 d2 d3 : Int} (ha : cz a1 a2 a3 = true) (hb : cz b1 b2 b3 = true) (hc : aL c1 c2 c3 = true) (hd : aL d1 d2 d3 = true) :
  nB a1 a2 a3 b1 b2 b3 c1 c2 c3 d1 d2 d3 = qm (bx a1 a2 a3 b1 b2 b3) (bx c1 c2 c3 d1 d2 d3) (wrap64 (wrap64 (bx a1 a2 a3 b1 b2 b3 * bx a1 a2 a3 b1 b2 b3) * wrap64 (bx c1 c2 c3 c1 c2 c3 * bx d1 d2 d3 d1 d2 d3))) (wrap64 (wrap64 (bx c1 c2 c3 d1 d2 d3 * bx c1 c2 c3 d1 d2 d3) * wrap64 (bx a1 a2 a3 a1 a2 a3 * bx b1 b2 b3 b1 b2 b3))) := by
 have wa := (fm ha).2
 have wb := (fm hb).2
 have wc := (eE hc).2
 have wd := (eE hd).2
 have pa := nD (bl.1 (fm ha).1).2
 have pb := nD (bl.1 (fm hb).1).2
 have pc := nD (bl.1 (eE hc).1).2
 have pd := nD (bl.1 (eE hd).1).2
 unfold nB
 rw [ha, hb, hc, hd, if_pos (by rfl)]
 rw [dx wa wb (by omega), dx wc wc (by omega), dx wd wd (by omega), dx wc wd (by omega), dx wa wa (by omega), dx wb wb (by omega)]
 have x1 := dh wa wb
 have x2 := dh wc wc
 have x3 := dh wd wd
 have x4 := dh wc wd
 have x5 := dh wa wa
 have x6 := dh wb wb
 rw [yK (P := 9720000) (Q := 300) (by omega) (by omega) (by omega) (by omega) (by omega) (by omega), yK (P := 300) (Q := 9720000) (by omega) (by omega) (by omega) (by omega) (by omega) (by omega)]
 exact (Ci (Int.mul_pos pc pd) (Int.mul_pos pa pb)).symm
end
section
open Go.RowKit
abbrev D3 := Int × Int × Int
def vA (L : List D3) (i : Nat) : D3 := L.getD i (0, 0, 0)
def iS (v : D3) : Bool := cz v.1 v.2.1 v.2.2
def bN (p q : D3) : Bool := dB p.1 p.2.1 p.2.2 q.1 q.2.1 q.2.2
def jw (L : List D3) (v : D3) (n : Nat) : Bool := (List.range n).any fun j => bN v (vA L j)
def mj (L : List D3) (v : D3) (k : Nat) : Prop := ∀ j, j < k → bN v (vA L j) = false
def okV (L : List D3) (i : Nat) : Bool := iS (vA L i) && !jw L (vA L i) i
def ss (L : List D3) (k : Nat) : Prop := ∀ j, j < k → okV L j = true
def aU (L : List D3) : Bool := decide (L.length ≤ 6) && (List.range L.length).all (okV L)
theorem ux {L : List D3} {v : D3} {n : Nat} (h : mj L v n) : jw L v n = false := by
 unfold jw
 rw [List.any_eq_false]
 intro j hj
 rw [h j (List.mem_range.1 hj)]
 simp
theorem sE {L : List D3} {v : D3} {n j : Nat} (hj : j < n) (h : bN v (vA L j) = true) : jw L v n = true := by
 unfold jw
 rw [List.any_eq_true]
 exact ⟨j, List.mem_range.2 hj, h⟩
theorem qu {L : List D3} {v : D3} {k : Nat} (h : mj L v k) (h1 : bN v (vA L k) = false) : mj L v (k + 1) := by
 intro j hj
 by_cases e : j = k
 ·rw [e]; exact h1
 ·exact h j (by omega)
theorem vP {L : List D3} {k : Nat} (h : ss L k) (h1 : okV L k = true) : ss L (k + 1) := by
 intro j hj
 by_cases e : j = k
 ·rw [e]; exact h1
 ·exact h j (by omega)
theorem kx {L : List D3} (hl : L.length ≤ 6) (h : ss L L.length) : aU L = true := by
 unfold aU
 rw [Bool.and_eq_true, List.all_eq_true]
 exact ⟨by simpa using hl, fun j hj => h j (List.mem_range.1 hj)⟩
theorem ms {L : List D3} {k : Nat} (hk : k < L.length) (h : okV L k = false) : aU L = false := by
 unfold aU
 have : (List.range L.length).all (okV L) = false := by
  rw [List.all_eq_false]
  exact ⟨k, List.mem_range.2 hk, by rw [h]; simp⟩
 rw [this, Bool.and_false]
theorem oZ {L : List D3} (hl : 6 < L.length) : aU L = false := by
 unfold aU
 rw [show decide (L.length ≤ 6) = false by simp; omega, Bool.false_and]
theorem bK {L : List D3} (h : aU L = true) : L.length ≤ 6 ∧ ss L L.length := by
 unfold aU at h
 rw [Bool.and_eq_true, List.all_eq_true] at h
 exact ⟨by simpa using h.1, fun j hj => h.2 j (List.mem_range.2 hj)⟩
theorem lW {L : List D3} {i : Nat} (h : okV L i = true) : iS (vA L i) = true := by
 unfold okV at h
 rw [Bool.and_eq_true] at h
 exact h.1
theorem gv {x y z : Int} (h : cz x y z = true) : ax x y z = true ∧ aK 1800 x y z = true := by simpa [cz] using h
theorem nS {a1 a2 a3 b1 b2 b3 : Int} (ra : ax a1 a2 a3 = true) (rb : ax b1 b2 b3 = true) : dB a1 a2 a3 b1 b2 b3 = dB b1 b2 b3 a1 a2 a3 := by
 obtain ⟨⟨x1, x2, x3⟩, _⟩ := bl.1 ra
 obtain ⟨⟨y1, y2, y3⟩, _⟩ := bl.1 rb
 have e1 := ei x2 x3 y2 y3 (by omega)
 have e2 := ei x3 x1 y3 y1 (by omega)
 have e3 := ei x1 x2 y1 y2 (by omega)
 have f1 := ei y2 y3 x2 x3 (by omega)
 have f2 := ei y3 y1 x3 x1 (by omega)
 have f3 := ei y1 y2 x1 x2 (by omega)
 unfold dB
 rw [ra, rb, e1.1, e2.1, e3.1, f1.1, f2.1, f3.1, sC]
 congr 2
 unfold gD
 rw [Int.mul_comm b2, Int.mul_comm b3 a2, Int.mul_comm b3 a1, Int.mul_comm b1 a3, Int.mul_comm b1 a2, Int.mul_comm b2 a1]
 congr 1
 apply propext
 constructor <;> rintro ⟨h1, h2, h3⟩ <;> exact ⟨by omega, by omega, by omega⟩
theorem tB {p q : D3} (hp : iS p = true) (hq : iS q = true) : bN p q = bN q p := nS (gv hp).1 (gv hq).1
end
section
open Go.RowKit
theorem infoByte : ∃ i : TypeInfo, Tryz.prog.info? 5 = some i ∧ i.zero = some (.int .u8 0) ∧ i.size = 1 ∧ i.bytes = 1 := by
 refine ⟨_, rfl, ?_, ?_, ?_⟩ <;> kernel_rfl
theorem yS (n : Nat) (h : n ≤ 281474976710656) : ∃ M : Array Value, M.size = n ∧ ∀ W : World, (Instr.makeSlice 41 (.int .i64 (n : Int)) (.int .i64 (n : Int))).run Tryz.prog W = .ok (.slice (some ⟨W.heap.size, 0, none⟩) n n) (W.alloc (.cells M 5)) := by
 obtain ⟨i0, hi, hz0, hz1, hz2⟩ := infoByte
 refine ⟨madeCells (Value.int .u8 0).cells (((n : Nat) : Int).toNat * i0.size), by rw [size_madeCells, hz1]; simp, fun W => ?_⟩
 have h := run_make (P := Tryz.prog) W 41 5 i0 (.int .u8 0) Tryz.underlying41 hi hz0 .i64 .i64 (n : Int) (n : Int) (by omega) (by omega) (by rw [hz2]; omega) (by omega)
 simpa using h
theorem jq (w : World) (M Y : Array Value) (T : TypeId) : (w.alloc (.cells M T)).setRow w.heap.size Y = w.alloc (.cells Y T) := by
 unfold World.setRow World.alloc
 congr 1
 apply Array.ext
 ·simp
 ·intro i h1 h2
  have h3 : i < w.heap.size + 1 := by simpa using h2
  simp only [Array.getElem_modify, Array.getElem_push]
  by_cases e : i = w.heap.size
  ·subst e; simp
  ·have h4 : i < w.heap.size := by omega
   simp [Ne.symm e, h4]
theorem kA (w : World) (T : TypeId) (Y : Array Value) (s : ByteArray) (hY : Y.toList = Lib.byteCells s.data.toList) (cap : Nat) :
  (convert 41 9 (.slice (some ⟨w.heap.size, 0, none⟩) s.size cap)).run Tryz.prog (w.alloc (.cells Y T)) = .ok (.string s) (w.alloc (.cells Y T)) := by
 refine Lib.run_convert_whole (P := Tryz.prog) _ 41 5 9 Tryz.underlying41 Tryz.underlying5 Tryz.underlying9 w.heap.size 0 s ?_ cap
 intro i hi
 have hl : Y[i]? = some (.int .u8 (s[i].toNat : Int)) := by
  rw [← Array.getElem?_toList, hY, Lib.byteCells, List.getElem?_map]
  have : s.data.toList[i]? = some s[i] := by rw [Array.getElem?_toList]; exact Array.getElem?_eq_getElem hi
  rw [this]; rfl
 simp [hl]
theorem tr (a : ByteArray) : a ++ ByteArray.empty = a := by
 apply ByteArray.ext
 simp
end
section
open Go.RowKit Go.Sort
def dG (k : Nat) : ByteArray := if k = 0 then ⟨#[]⟩ else ⟨(Lib.decDigits k).toArray⟩
def dgB (d : Nat) : UInt8 := UInt8.ofNat (48 + d)
theorem DB (k l : List UInt8) : ((⟨k.toArray⟩ : ByteArray) ++ ⟨l.toArray⟩) = ⟨(k ++ l).toArray⟩ := by
 apply ByteArray.ext
 simp
theorem yO {k : Nat} (hk : k ≠ 0) : dG k = dG (k / 10) ++ ⟨#[dgB (k % 10)]⟩ := by
 unfold dG dgB
 rw [if_neg hk]
 by_cases h : k < 10
 ·rw [if_pos (by omega), Lib.decDigits_one h, Nat.mod_eq_of_lt h]
  exact (DB [] _).symm
 ·rw [if_neg (by omega), Lib.decDigits, dif_neg h]
  exact (DB _ [_]).symm
theorem Dy : dG 0 = ⟨#[]⟩ := rfl
theorem xY (x : UInt8) : (⟨#[x]⟩ : ByteArray).size = 1 := rfl
theorem CN : (⟨#[]⟩ : ByteArray).size = 0 := rfl
theorem Ef (t : ByteArray) : (⟨#[]⟩ : ByteArray) ++ t = t := by
 apply ByteArray.ext
 simp
theorem Dg (t : ByteArray) : t ++ (⟨#[]⟩ : ByteArray) = t := by
 apply ByteArray.ext
 simp
theorem Es {d : Nat} (h : d < 10) : ((dgB d).toNat : Int) = 48 + (d : Int) := by
 unfold dgB
 rw [UInt8.toNat_ofNat']
 omega
theorem En (k : Nat) : (k : Int).tmod 10 = ((k % 10 : Nat) : Int) := by
 rw [Int.tmod_eq_emod_of_nonneg (by omega)]
 omega
theorem Ek (k : Nat) : (k : Int).tdiv 10 = ((k / 10 : Nat) : Int) := by
 rw [Int.tdiv_eq_ediv_of_nonneg (by omega)]
 omega
theorem Ev (w : World) (k : UInt8) : (convert 41 9 (.slice (some ⟨w.heap.size, 0, none⟩) 1 1)).run Tryz.prog (w.alloc (.cells #[.int .u8 (k.toNat : Int)] 5)) = .ok (.string ⟨#[k]⟩) (w.alloc (.cells #[.int .u8 (k.toNat : Int)] 5)) :=
 kA w 5 #[.int .u8 (k.toNat : Int)] ⟨#[k]⟩ (by simp [Lib.byteCells]) 1
end
section
def pcs (c : UInt8) : List UInt8 → List (List UInt8)
 | [] => [[]]
 | x :: xs => if x = c then [] :: pcs c xs else (x :: (pcs c xs).headD []) :: (pcs c xs).tail
theorem jD (c : UInt8) (s : List UInt8) : pcs c s ≠ [] := by
 cases s with
 | nil => simp [pcs]
 | cons x xs => unfold pcs; split <;> simp
theorem pY {c : UInt8} : ∀ {s : List UInt8}, c ∉ s → pcs c s = [s]
 | [], _ => rfl
 | x :: xs, h => by
  have hx : ¬ x = c := fun e => h (e ▸ List.mem_cons_self ..)
  have ih := pY (c := c) (s := xs) (fun h' => h (List.mem_cons_of_mem _ h'))
  unfold pcs
  rw [if_neg hx, ih]
  rfl
theorem mL {c : UInt8} : ∀ {a b : List UInt8}, c ∉ a → pcs c (a ++ c :: b) = a :: pcs c b
 | [], b, _ => by show pcs c (c :: b) = _; rw [pcs, if_pos rfl]
 | x :: xs, b, h => by
  have hx : ¬ x = c := fun e => h (e ▸ List.mem_cons_self ..)
  have ih := mL (c := c) (a := xs) (b := b) (fun h' => h (List.mem_cons_of_mem _ h'))
  show pcs c (x :: (xs ++ c :: b)) = _
  rw [pcs, if_neg hx, ih]
  rfl
theorem qg {c : UInt8} : ∀ {s : List UInt8}, c ∈ s → ∃ a b, s = a ++ c :: b ∧ c ∉ a
 | [], h => by cases h
 | x :: xs, h => by
  by_cases hx : x = c
  ·exact ⟨[], xs, by rw [hx]; rfl, by simp⟩
  ·have : c ∈ xs := by rcases List.mem_cons.1 h with e | e; exact absurd e.symm hx; exact e
   obtain ⟨a, b, e, hn⟩ := qg this
   exact ⟨x :: a, b, by rw [e]; rfl, fun h' => by rcases List.mem_cons.1 h' with e' | e'; exact hx e'.symm; exact hn e'⟩
theorem uT {c : UInt8} {s : List UInt8} (h : c ∉ s) : Lib.index s [c] = -1 := by
 rw [Lib.index_one]
 have := Lib.indexByte_ge s c
 rcases Int.lt_or_le (Lib.indexByte s c) 0 with h1 | h1
 ·omega
 ·obtain ⟨o, ho⟩ := Int.eq_ofNat_of_zero_le h1
  exact absurd (List.mem_of_getElem? (Lib.indexByte_some ho).1) h
theorem tK {c : UInt8} {a b : List UInt8} (h : c ∉ a) : Lib.index (a ++ c :: b) [c] = (a.length : Int) := by
 rw [Lib.index_one]
 have := Lib.indexByte_ge (a ++ c :: b) c
 rcases Int.lt_or_le (Lib.indexByte (a ++ c :: b) c) 0 with h1 | h1
 ·exact absurd (by rw [List.getElem?_append_right (Nat.le_refl _)]; simp) (Lib.indexByte_none (l := a ++ c :: b) (c := c) (by omega) a.length)
 ·obtain ⟨o, ho⟩ := Int.eq_ofNat_of_zero_le h1
  obtain ⟨g1, g2⟩ := Lib.indexByte_some ho
  rw [ho]
  rcases Nat.lt_trichotomy o a.length with h2 | h2 | h2
  ·rw [List.getElem?_append_left h2] at g1
   exact absurd (List.mem_of_getElem? g1) h
  ·rw [h2]
  ·exact absurd (by rw [List.getElem?_append_right (Nat.le_refl _)]; simp) (g2 a.length h2)
theorem AG {c : UInt8} {s : List UInt8} (h : c ∉ s) : Lib.cut s [c] = (s, [], false) := by unfold Lib.cut; rw [uT h]; rfl
theorem CZ {c : UInt8} {a b : List UInt8} (h : c ∉ a) : Lib.cut (a ++ c :: b) [c] = (a, b, true) := by
 unfold Lib.cut
 rw [tK h, if_pos (by omega)]
 simp
theorem sl (c : UInt8) : ∀ (n : Nat) (s : List UInt8), s.length ≤ n → Lib.splitK [c] 0 (Lib.count s [c]) s = pcs c s
 | n, s, hn => by
  by_cases h : c ∈ s
  ·obtain ⟨a, b, rfl, ha⟩ := qg h
   match n, hn with
   | 0, hn => simp at hn
   | n + 1, hn =>
    have ih := sl c n b (by simp at hn; omega)
    have hc : Lib.count (a ++ c :: b) [c] = 1 + Lib.count b [c] := by
     have := Lib.count_hit (s := a ++ c :: b) (sub := [c]) (i := a.length) (by simp) (tK ha)
     rw [this]
     simp
    rw [hc, Nat.add_comm, Lib.splitK, tK ha, if_neg (by simp), mL ha]
    simp only [Int.toNat_natCast, Nat.add_zero]
    rw [List.take_left, show ([c] : List UInt8).length = 1 from rfl, ← ih]
    congr 2
    simp
  ·rw [Lib.count_miss (uT h), pY h]
   rfl
def re (x : UInt8) : Bool := decide (48 ≤ x.toNat ∧ x.toNat ≤ 57)
def jg : List UInt8 → Int := fun l => l.foldl (fun n x => 10 * n + ((x.toNat : Int) - 48)) 0
def fq (l : List UInt8) : Bool := decide (1 ≤ l.length ∧ l.length ≤ 9) && !(decide (1 < l.length) && decide (l.head? = some 48)) && l.all re
def iP : List UInt8 := [98, 108, 105, 110, 100]
def iI : List UInt8 := [100, 114, 105, 102, 116]
def qP : List UInt8 := [105, 100, 115]
def kW : List UInt8 := [109, 111, 118, 101]
def iJ : List UInt8 := [114, 101, 115, 101, 116]
def rn : List UInt8 := [115, 101, 101]
def iO : List UInt8 := [115, 116, 97, 116, 101]
structure Ln where
 k : Nat
 t : List UInt8
 n : Int
def hF (k : Nat) : List (List UInt8) → Option Ln
 | [x] => if x = [] then none else some ⟨k, x, 0⟩
 | _ => none
def iH (k : Nat) : List (List UInt8) → Option Ln
 | [x] => if fq x = true then some ⟨k, [], jg x⟩ else none
 | _ => none
def gw (k : Nat) : List (List UInt8) → Option Ln
 | [] => some ⟨k, [], 0⟩
 | _ => none
def bh (raw : List UInt8) : Option Ln :=
 match pcs 32 raw with
 | [] => none
 | w :: r => if w = iP then gw 0 r else if w = iI then hF 1 r else if w = qP then iH 2 r else if w = kW then hF 3 r else if w = iJ then gw 4 r else if w = rn then iH 5 r else if w = iO then gw 6 r else none
def dF : Nat → List (List UInt8) → List Ln ⊕ Nat
 | i, [] => .inl []
 | i, [p] => if p = [] then .inl [] else .inr i
 | i, p :: q :: r => match bh p with
  | none => .inr i
  | some l => if 40 ≤ i then .inr i else match dF (i + 1) (q :: r) with
   | .inl ls => .inl (l :: ls)
   | .inr j => .inr j
end
section
open Go.RowKit
theorem zf (l : List UInt8) (x : UInt8) : jg (l ++ [x]) = 10 * jg l + ((x.toNat : Int) - 48) := by unfold jg; rw [List.foldl_append]; rfl
def dgs (s : ByteArray) (k : Nat) : Bool := (s.data.toList.take k).all re
def vls (s : ByteArray) (k : Nat) : Int := jg (s.data.toList.take k)
theorem oP (s : ByteArray) (k : Nat) (h : k < s.size) : s.data.toList.take (k + 1) = s.data.toList.take k ++ [s[k]] := by
 have hl : k < s.data.toList.length := by simpa using h
 have e2 : s.data.toList[k] = s[k] := by
  have e1 : s.data.toList[k]? = some s[k] := by
   rw [Array.getElem?_toList]
   exact Array.getElem?_eq_getElem h
  rw [List.getElem?_eq_getElem hl] at e1
  exact Option.some.inj e1
 rw [List.take_succ_eq_append_getElem hl, e2]
theorem mS (s : ByteArray) (k : Nat) (h : k < s.size) : dgs s (k + 1) = (dgs s k && re s[k]) := by unfold dgs; rw [oP s k h, List.all_append]; simp
theorem qB (s : ByteArray) (k : Nat) (h : k < s.size) : vls s (k + 1) = 10 * vls s k + ((s[k].toNat : Int) - 48) := by unfold vls; rw [oP s k h, zf]
theorem um (x : UInt8) : re x = true ↔ 48 ≤ x.toNat ∧ x.toNat ≤ 57 := by unfold re; simp
theorem mV (s : ByteArray) : ∀ k, k ≤ s.size → dgs s k = true → 0 ≤ vls s k ∧ vls s k < 10 ^ k
 | 0, _, _ => by unfold vls jg; simp
 | k + 1, hk, h => by
  rw [mS s k (by omega), Bool.and_eq_true] at h
  have ih := mV s k (by omega) h.1
  have := (um _).1 h.2
  rw [qB s k (by omega), Int.pow_succ]
  omega
theorem us {s : ByteArray} {k : Nat} (hk : k ≤ s.size) (h9 : s.size ≤ 9) (h : dgs s k = true) : 0 ≤ vls s k ∧ vls s k ≤ 999999999 := by
 have b := mV s k hk h
 have : (10 : Int) ^ k ≤ 10 ^ 9 := by
  have := Nat.pow_le_pow_right (n := 10) (by omega) (show k ≤ 9 by omega)
  exact_mod_cast this
 have e : (10 : Int) ^ 9 = 1000000000 := by decide
 omega
theorem xp (s : ByteArray) {k : Nat} (hk : k < s.size) (h : re s[k] = false) : dgs s s.size = false := by
 have : ∀ n, k < n → n ≤ s.size → dgs s n = false := by
  intro n
  induction n with
  | zero => intro h1; omega
  | succ n ih =>
   intro h1 h2
   rw [mS s n (by omega)]
   by_cases e : k = n
   ·subst e; rw [h]; simp
   ·rw [ih (by omega) (by omega)]; rfl
 exact this s.size hk (Nat.le_refl _)
theorem bg (s : ByteArray) : s.data.toList.length = s.size := by simp
theorem CK (s : ByteArray) : dgs s s.size = s.data.toList.all re := by unfold dgs; rw [List.take_of_length_le (by rw [bg]; exact Nat.le_refl _)]
theorem tm (s : ByteArray) : vls s s.size = jg s.data.toList := by unfold vls; rw [List.take_of_length_le (by rw [bg]; exact Nat.le_refl _)]
theorem yw (s : ByteArray) (h : 0 < s.size) : s.data.toList.head? = some s[0] := by
 rw [List.head?_eq_getElem?, Array.getElem?_toList]
 exact Array.getElem?_eq_getElem h
def ff (s : ByteArray) : Bool := decide (1 ≤ s.size ∧ s.size ≤ 9) && !(decide (1 < s.size) && decide (s.data.toList.head? = some 48))
theorem fH (s : ByteArray) : fq s.data.toList = (ff s && dgs s s.size) := by unfold fq ff; rw [CK, bg]
theorem yP {x : Nat} (h : 48 ≤ x) (h2 : x ≤ 57) : IntKind.u8.wrap ((x : Int) - 48) = (x : Int) - 48 := by
 obtain ⟨d, rfl⟩ : ∃ d, x = 48 + d := ⟨x - 48, by omega⟩
 have : d ≤ 9 := by omega
 have hc : d = 0 ∨ d = 1 ∨ d = 2 ∨ d = 3 ∨ d = 4 ∨ d = 5 ∨ d = 6 ∨ d = 7 ∨ d = 8 ∨ d = 9 := by omega
 rcases hc with rfl | rfl | rfl | rfl | rfl | rfl | rfl | rfl | rfl | rfl <;> decide
theorem pS (s : ByteArray) (w : World) (hs : s.size ≤ 8000) :
  Calls Tryz.prog 18 #[.string s] w fun e w' => e = .returned (.int .i64 (if fq s.data.toList = true then jg s.data.toList else -1)) ∧ w' = w := by
 obtain ⟨R, hR⟩ : ∃ R : Int, (if fq s.data.toList = true then jg s.data.toList else -1) = R := ⟨_, rfl⟩
 rw [hR]
 have HR := yz hR
 clear hR
 by_cases h0 : s.size < 1
 ·have hd : decide ((s.size : Int) < 1) = true := decide_eq_true (by omega)
  have HO : Hid (R = -1) := yz (by rw [← yy HR, fH]; unfold ff; rw [decide_eq_false (show ¬ (1 ≤ s.size ∧ s.size ≤ 9) by omega)]; rfl)
  go_enter Tryz.func18, Tryz.ntmps18
  go_wp2
  go_ret
  exact ⟨by rw [yy HO]; rfl, rfl⟩
 have hd : decide ((s.size : Int) < 1) = false := decide_eq_false (by omega)
 by_cases h9 : 9 < s.size
 ·have hd9 : decide ((9 : Int) < (s.size : Int)) = true := decide_eq_true (by omega)
  have HO : Hid (R = -1) := yz (by rw [← yy HR, fH]; unfold ff; rw [decide_eq_false (show ¬ (1 ≤ s.size ∧ s.size ≤ 9) by omega)]; rfl)
  go_enter Tryz.func18, Tryz.ntmps18
  go_wp2
  go_ret
  exact ⟨by rw [yy HO]; rfl, rfl⟩
 have hd9 : decide ((9 : Int) < (s.size : Int)) = false := decide_eq_false (by omega)
 have hp : 0 < s.size := by omega
 have hhd := yw s hp
 have hrange : decide (1 ≤ s.size ∧ s.size ≤ 9) = true := decide_eq_true (by omega)
 by_cases hz : 1 < s.size ∧ s[0] = 48
 ·have h1 : decide ((1 : Int) < (s.size : Int)) = true := decide_eq_true (by omega)
  have hb : ((s[0].toNat : Int) == 48) = true := by rw [hz.2]; rfl
  have HO : Hid (R = -1) := yz (by rw [← yy HR, fH]; unfold ff; rw [hrange, hhd, hz.2, decide_eq_true hz.1]; rfl)
  go_enter Tryz.func18, Tryz.ntmps18
  go_wp2
  go_ret
  exact ⟨by rw [yy HO]; rfl, rfl⟩
 have HH : Hid (ff s = true) := yz (by
  unfold ff
  rw [hrange, hhd]
  by_cases h1 : 1 < s.size
  ·have : s[0] ≠ 48 := fun e => hz ⟨h1, e⟩
   rw [decide_eq_true h1, decide_eq_false (by simpa using this)]
   rfl
  ·rw [decide_eq_false h1]
   rfl)
 have key : decide ((1 : Int) < (s.size : Int)) = false ∨ (decide ((1 : Int) < (s.size : Int)) = true ∧ ((s[0].toNat : Int) == 48) = false) := by
  by_cases h1 : 1 < s.size
  ·refine .inr ⟨decide_eq_true (by omega), ?_⟩
   have : s[0] ≠ 48 := fun e => hz ⟨h1, e⟩
   have h2 : s[0].toNat ≠ 48 := fun e => this (UInt8.toNat.inj e)
   simpa using (show (s[0].toNat : Int) ≠ 48 by omega)
  ·exact .inl (decide_eq_false (by omega))
 have HRR : Hid (R = if dgs s s.size = true then vls s s.size else -1) := yz (by rw [← yy HR, fH, yy HH, Bool.true_and, tm])
 have h9' : s.size ≤ 9 := by omega
 clear hz hrange hhd HR HH
 rcases key with h1 | ⟨h1, hb⟩
 all_goals
  go_enter Tryz.func18, Tryz.ntmps18
  go_wp2_with fail
  go_loop [3, 4] (fun n i => ∃ (k : Nat) (v : Int), k ≤ s.size ∧ i = .int .i64 k ∧ n = .int .i64 v ∧ 0 ≤ v ∧ v ≤ 999999999 ∧ Hid (v = vls s k) ∧ Hid (dgs s k = true)) (fun _ i => s.size - (intOf i).toNat)
  case atStart => exact ⟨0, 0, by omega, rfl, rfl, by omega, by omega, yz rfl, yz rfl⟩
  case round =>
   obtain ⟨k, v, hk, rfl, rfl, hv0, hv9, HV, HD⟩ := hrel
   by_cases hkn : k < s.size
   ·have hkn2 : (k : Int) < (s.size : Int) := by omega
    have HS := yz (mS s k hkn)
    have HVS := yz (qB s k hkn)
    have HB := yz (fun h => us (s := s) (k := k + 1) (by omega) h9' h)
    have hbt := s[k].toNat_lt
    obtain ⟨x, hx⟩ : ∃ x : Nat, s[k].toNat = x := ⟨_, rfl⟩
    have HI := yz (um s[k])
    rw [hx] at HVS HI hbt
    by_cases hl : x < 48
    ·have hdl : decide ((x : Int) < 48) = true := decide_eq_true (by omega)
     have HO : Hid (R = -1) := yz (by
      have hf : dgs s s.size = false := xp s hkn (by cases hq : re s[k] with | false => rfl | true => have := (yy HI).1 hq; omega)
      rw [yy HRR, hf]
      rfl)
     go_wp2
     go_ret
     exact ⟨by rw [yy HO]; rfl, rfl⟩
    have hdl : decide ((x : Int) < 48) = false := decide_eq_false (by omega)
    by_cases hr : 57 < x
    ·have hdr : decide ((57 : Int) < (x : Int)) = true := decide_eq_true (by omega)
     have HO : Hid (R = -1) := yz (by
      have hf : dgs s s.size = false := xp s hkn (by cases hq : re s[k] with | false => rfl | true => have := (yy HI).1 hq; omega)
      rw [yy HRR, hf]
      rfl)
     go_wp2
     go_ret
     exact ⟨by rw [yy HO]; rfl, rfl⟩
    have hdr : decide ((57 : Int) < (x : Int)) = false := decide_eq_false (by omega)
    have hw := yP (x := x) (by omega) (by omega)
    have HD2 : Hid (dgs s (k + 1) = true) := yz (by rw [yy HS, yy HD, (yy HI).2 (by omega)]; rfl)
    have hbd := yy HB (yy HD2)
    rw [yy HVS, ← yy HV] at hbd
    have HV2 : Hid (10 * v + ((x : Int) - 48) = vls s (k + 1)) := yz (by rw [yy HVS, yy HV])
    clear HS HVS HB HI hbt
    go_wp2
    go_round
    case rel => exact ⟨k + 1, 10 * v + ((x : Int) - 48), by omega, by go_num, by go_num, hbd.1, hbd.2, HV2, HD2⟩
    case measure => simp [intOf]; omega
   ·have hkn' : k = s.size := by omega
    subst hkn'
    go_wp2
    go_ret
    exact ⟨by rw [yy HRR, yy HD, if_pos rfl, ← yy HV]; rfl, rfl⟩
theorem tD (x : Nat) (w : World) :
  Calls Tryz.prog 126 #[.int .u8 (x : Int)] w fun e w' => e = .returned (.bool (decide (48 ≤ x ∧ x ≤ 57))) ∧ w' = w := by
 by_cases hl : 48 ≤ x
 ·have h1 : decide ((48 : Int) ≤ (x : Int)) = true := decide_eq_true (by omega)
  by_cases hr : x ≤ 57
  ·have h2 : decide ((x : Int) ≤ 57) = true := decide_eq_true (by omega)
   have HO : Hid (decide (48 ≤ x ∧ x ≤ 57) = true) := yz (decide_eq_true ⟨hl, hr⟩)
   go_enter Tryz.func126, Tryz.ntmps126
   go_wp2
   go_ret
   exact ⟨by rw [yy HO]; rfl, rfl⟩
  ·have h2 : decide ((x : Int) ≤ 57) = false := decide_eq_false (by omega)
   have HO : Hid (decide (48 ≤ x ∧ x ≤ 57) = false) := yz (decide_eq_false (by omega))
   go_enter Tryz.func126, Tryz.ntmps126
   go_wp2
   go_ret
   exact ⟨by rw [yy HO]; rfl, rfl⟩
 ·have h1 : decide ((48 : Int) ≤ (x : Int)) = false := decide_eq_false (by omega)
  have HO : Hid (decide (48 ≤ x ∧ x ≤ 57) = false) := yz (decide_eq_false (by omega))
  go_enter Tryz.func126, Tryz.ntmps126
  go_wp2
  go_ret
  exact ⟨by rw [yy HO]; rfl, rfl⟩
theorem De {a b : ByteArray} (h : a ≠ b) : (a.toList == b.toList) = false := by
 rw [ByteArray.toList_eq, ByteArray.toList_eq]
 simp
 intro e
 exact h (ByteArray.ext e)
theorem fe {a : ByteArray} {l : List UInt8} (h : a ≠ ⟨l.toArray⟩) : (a.toList == l) = false := by
 rw [ByteArray.toList_eq]
 cases h2 : (a.data.toList == l) with
 | false => rfl
 | true => exact absurd (ByteArray.ext (by rw [← (show a.data.toList = l by simpa using h2)])) h
theorem oO {a : ByteArray} {l : List UInt8} (h : a = ⟨l.toArray⟩) : (a.toList == l) = true := by rw [ByteArray.toList_eq, h]; simp
theorem Cf {s : ByteArray} (h1 : s.size = 1) (h : s[0]'(by omega) = 48) : s = ⟨#[48]⟩ := by
 apply ByteArray.ext
 apply Array.ext
 ·exact h1
 ·intro i hi1 hi2
  obtain rfl : i = 0 := by have : s.data.size = 1 := h1; omega
  exact h
theorem qR (s : ByteArray) (w : World) (hs : s.size ≤ 8000) :
  Calls Tryz.prog 100 #[.string s] w fun e w' => e = .returned (.tuple #[.int .i64 (if fq s.data.toList = true then jg s.data.toList else 0), .bool (fq s.data.toList)]) ∧ w' = w := by
 obtain ⟨R, hR⟩ : ∃ R : Int, (if fq s.data.toList = true then jg s.data.toList else 0) = R := ⟨_, rfl⟩
 obtain ⟨Q, hQ⟩ : ∃ Q : Bool, fq s.data.toList = Q := ⟨_, rfl⟩
 rw [hR, hQ]
 have HR := yz hR
 have HQ := yz hQ
 clear hR hQ
 have no : Hid (fq s.data.toList = false → R = 0 ∧ Q = false) := yz (fun h => ⟨by rw [← yy HR, h]; rfl, by rw [← yy HQ, h]⟩)
 by_cases h0 : s.size < 1
 ·have hd : decide ((s.size : Int) < 1) = true := decide_eq_true (by omega)
  have HO := yz (yy no (by rw [fH]; unfold ff; rw [decide_eq_false (show ¬ (1 ≤ s.size ∧ s.size ≤ 9) by omega)]; rfl))
  go_enter Tryz.func100, Tryz.ntmps100
  go_wp2
  refine bodyPost_ret (v := .tuple #[.int .i64 0, .bool false]) (by simp [results, Tryz.results100, go_sem]) rfl ⟨by rw [(yy HO).1, (yy HO).2], rfl⟩
 have hd : decide ((s.size : Int) < 1) = false := decide_eq_false (by omega)
 by_cases h9 : 9 < s.size
 ·have hd9 : decide ((9 : Int) < (s.size : Int)) = true := decide_eq_true (by omega)
  have HO := yz (yy no (by rw [fH]; unfold ff; rw [decide_eq_false (show ¬ (1 ≤ s.size ∧ s.size ≤ 9) by omega)]; rfl))
  go_enter Tryz.func100, Tryz.ntmps100
  go_wp2
  refine bodyPost_ret (v := .tuple #[.int .i64 0, .bool false]) (by simp [results, Tryz.results100, go_sem]) rfl ⟨by rw [(yy HO).1, (yy HO).2], rfl⟩
 have hd9 : decide ((9 : Int) < (s.size : Int)) = false := decide_eq_false (by omega)
 have hp : 0 < s.size := by omega
 have hhd := yw s hp
 have hrange : decide (1 ≤ s.size ∧ s.size ≤ 9) = true := decide_eq_true (by omega)
 by_cases hz : 1 < s.size ∧ s[0] = 48
 ·have hb : ((s[0].toNat : Int) == 48) = true := by rw [hz.2]; rfl
  have hne : (s.toList == [48]) = false := fe (l := [48]) (fun e => by have := congrArg ByteArray.size e; have h1 : (⟨#[48]⟩ : ByteArray).size = 1 := rfl; omega)
  have HO := yz (yy no (by rw [fH]; unfold ff; rw [hrange, hhd, hz.2, decide_eq_true hz.1]; rfl))
  go_enter Tryz.func100, Tryz.ntmps100
  go_wp2
  refine bodyPost_ret (v := .tuple #[.int .i64 0, .bool false]) (by simp [results, Tryz.results100, go_sem]) rfl ⟨by rw [(yy HO).1, (yy HO).2], rfl⟩
 have HH : Hid (ff s = true) := yz (by
  unfold ff
  rw [hrange, hhd]
  by_cases h1 : 1 < s.size
  ·have : s[0] ≠ 48 := fun e => hz ⟨h1, e⟩
   rw [decide_eq_true h1, decide_eq_false (by simpa using this)]
   rfl
  ·rw [decide_eq_false h1]
   rfl)
 have key : ((s[0].toNat : Int) == 48) = false ∨ (((s[0].toNat : Int) == 48) = true ∧ (s.toList == [48]) = true) := by
  by_cases h1 : s[0] = 48
  ·exact .inr ⟨by rw [h1]; rfl, oO (l := [48]) (Cf (by have : ¬ 1 < s.size := fun e => hz ⟨e, h1⟩; omega) h1)⟩
  ·have h2 : s[0].toNat ≠ 48 := fun e => h1 (UInt8.toNat.inj e)
   exact .inl (by simpa using (show (s[0].toNat : Int) ≠ 48 by omega))
 have HRR : Hid (R = (if dgs s s.size = true then vls s s.size else 0) ∧ Q = dgs s s.size) := yz (by rw [← yy HR, ← yy HQ, fH, yy HH, Bool.true_and, tm]; exact ⟨rfl, rfl⟩)
 have h9' : s.size ≤ 9 := by omega
 clear hz hrange hhd HR HH HQ no
 rcases key with hb | ⟨hb, hst⟩
 all_goals
  go_enter Tryz.func100, Tryz.ntmps100
  go_wp2_with fail
  go_loop [4, 25] (fun n i => ∃ (k : Nat) (v : Int), k ≤ s.size ∧ i = .int .i64 k ∧ n = .int .i64 v ∧ 0 ≤ v ∧ v ≤ 999999999 ∧ Hid (v = vls s k) ∧ Hid (dgs s k = true)) (fun _ i => s.size - (intOf i).toNat)
  case atStart => exact ⟨0, 0, by omega, rfl, rfl, by omega, by omega, yz rfl, yz rfl⟩
  case round =>
   obtain ⟨k, v, hk, rfl, rfl, hv0, hv9, HV, HD⟩ := hrel
   by_cases hkn : k < s.size
   ·have hkn2 : (k : Int) < (s.size : Int) := by omega
    have HS := yz (mS s k hkn)
    have HVS := yz (qB s k hkn)
    have HB := yz (fun h => us (s := s) (k := k + 1) (by omega) h9' h)
    have hbt := s[k].toNat_lt
    obtain ⟨x, hx⟩ : ∃ x : Nat, s[k].toNat = x := ⟨_, rfl⟩
    have HI := yz (um s[k])
    rw [hx] at HVS HI hbt
    have cD := yz (tD x w)
    by_cases hdg : 48 ≤ x ∧ x ≤ 57
    ·have hw := yP (x := x) hdg.1 hdg.2
     have HD2 : Hid (dgs s (k + 1) = true) := yz (by rw [yy HS, yy HD, (yy HI).2 hdg]; rfl)
     have hbd := yy HB (yy HD2)
     rw [yy HVS, ← yy HV] at hbd
     have HV2 : Hid (10 * v + ((x : Int) - 48) = vls s (k + 1)) := yz (by rw [yy HVS, yy HV])
     rw [decide_eq_true hdg] at cD
     clear HS HVS HB HI hbt
     go_wp2_with fail
     refine (yy cD).mono ?_
     rintro e w2 ⟨rfl, hw2⟩
     subst hw2
     go_wp2
     go_round
     case rel => exact ⟨k + 1, 10 * v + ((x : Int) - 48), by omega, by go_num, by go_num, hbd.1, hbd.2, HV2, HD2⟩
     case measure => simp [intOf]; omega
    ·have HO : Hid (R = 0 ∧ Q = false) := yz (by
      have hf : dgs s s.size = false := xp s hkn (by cases hq : re s[k] with | false => rfl | true => exact absurd ((yy HI).1 hq) hdg)
      rw [(yy HRR).1, (yy HRR).2, hf]
      exact ⟨rfl, rfl⟩)
     rw [decide_eq_false hdg] at cD
     go_wp2_with fail
     refine (yy cD).mono ?_
     rintro e w2 ⟨rfl, hw2⟩
     subst hw2
     go_wp2
     refine bodyPost_ret (v := .tuple #[.int .i64 0, .bool false]) (by simp [results, Tryz.results100, go_sem]) rfl ⟨by rw [(yy HO).1, (yy HO).2], rfl⟩
   ·have hkn' : k = s.size := by omega
    subst hkn'
    go_wp2
    refine bodyPost_ret (v := .tuple #[.int .i64 v, .bool true]) (by simp [results, Tryz.results100, go_sem]) rfl ⟨by rw [(yy HRR).1, (yy HRR).2, yy HD, if_pos rfl, ← yy HV], rfl⟩
end
section
open Go.RowKit
def fz (n : Nat) : ByteArray := if n = 0 then ⟨#[48]⟩ else dG n
theorem qv {n : Nat} (h : n ≠ 0) : fz n = dG n := by unfold fz; rw [if_neg h]
theorem yU : ∀ (k n : Nat), n < 10 ^ k → (dG n).size ≤ k
 | 0, n, h => by
  obtain rfl : n = 0 := by omega
  exact Nat.le_refl _
 | k + 1, n, h => by
  by_cases hn : n = 0
  ·subst hn; exact Nat.zero_le _
  ·rw [yO hn, ByteArray.size_append, xY]
   have := yU k (n / 10) (by rw [Nat.pow_succ] at h; omega)
   omega
theorem dN {n : Nat} (h : n ≤ 1000000000) : (fz n).size ≤ 10 := by
 by_cases hn : n = 0
 ·subst hn; decide
 ·rw [qv hn]
  exact yU 10 n (by omega)
theorem it (n : Nat) (w : World) (hn : n ≤ 1000000000) :
  Calls Tryz.prog 25 #[.int .i64 n] w fun e w' => e = .returned (.string (fz n)) ∧ Below w.heap.size w w' := by
 by_cases h0 : n = 0
 ·subst h0
  go_enter Tryz.func25, Tryz.ntmps25
  go_wp2_with fail
  go_ret
  exact ⟨rfl, Below.refl _ _⟩
 have h0' : ((n : Int) == 0) = false := by simpa using (show (n : Int) ≠ 0 by omega)
 have hng : ¬ (n : Int) < 0 := by omega
 have HO := yz (qv h0)
 go_enter Tryz.func25, Tryz.ntmps25
 go_wp2_with fail
 go_loopw [0, 4] (fun u s wr => ∃ (k : Nat) (t : ByteArray), u = .int .i64 k ∧ s = .string t ∧ k ≤ n ∧ t.size + k ≤ n ∧ Hid (dG k ++ t = dG n) ∧ Hid (Below w.heap.size w wr)) (fun u _ _ => (intOf u).toNat)
 case atStart => exact ⟨n, ⟨#[]⟩, rfl, rfl, Nat.le_refl _, by rw [CN]; omega, yz (Dg _), yz (Below.refl _ _)⟩
 case round =>
  obtain ⟨k, t, rfl, rfl, hk, ht, HD, HB⟩ := hrel
  by_cases hz : k = 0
  ·subst hz
   go_wp2
   go_ret
   exact ⟨by rw [yy HO, ← yy HD, Dy, Ef]; rfl, yy HB⟩
  ·have hk0 : ((k : Int) == 0) = false := by simpa using (show (k : Int) ≠ 0 by omega)
   obtain ⟨d, hd⟩ : ∃ d, k % 10 = d := ⟨_, rfl⟩
   obtain ⟨q, hq⟩ : ∃ q, k / 10 = q := ⟨_, rfl⟩
   have hd10 : d < 10 := by omega
   have hdn : ¬ (d : Int) < 0 := by omega
   have er := En k
   have eq := Ek k
   rw [hd] at er
   rw [hq] at eq
   have hcv := Ev wr (dgB d)
   rw [Es hd10] at hcv
   have hc : ¬ (⟨#[dgB d]⟩ : ByteArray).size + t.size > 9223372036854775807 := by rw [xY]; omega
   go_wp2
   go_roundw
   case rel => exact ⟨q, ⟨#[dgB d]⟩ ++ t, rfl, rfl, by omega, by rw [ByteArray.size_append, xY]; omega, yz (by rw [← yy HD, yO hz, hd, hq, ByteArray.append_assoc]), yz (ak (yy HB) (an _ _))⟩
   case measure => simp [intOf]; omega
def fR (n : Nat) : ByteArray := ⟨#[101, 114, 114, 111, 114, 32]⟩ ++ fz n
theorem gK (n : Nat) (w : World) (hn : n ≤ 1000000000) :
  Calls Tryz.prog 24 #[.int .i64 n] w fun e w' => e = .returned (.string (fR n)) ∧ Below w.heap.size w w' := by
 have hz := dN hn
 have cD := yz (it n w hn)
 have HE : Hid (fR n = ⟨#[101, 114, 114, 111, 114, 32]⟩ ++ fz n) := yz rfl
 generalize fz n = x at *
 have hc : ¬ (⟨#[101, 114, 114, 111, 114, 32]⟩ : ByteArray).size + x.size > 9223372036854775807 := by have : (⟨#[101, 114, 114, 111, 114, 32]⟩ : ByteArray).size = 6 := rfl; omega
 go_enter Tryz.func24, Tryz.ntmps24
 go_wp2_with fail
 refine (yy cD).mono ?_
 rintro e w1 ⟨rfl, hx⟩
 have HB := yz hx
 clear hx cD
 go_wp2
 go_ret
 exact ⟨by rw [yy HE]; rfl, yy HB⟩
end
section
open Go.RowKit
def eR (w : World) (t : TypeId) (g m : Nat) (f : Nat → Int) : Prop := ∃ cur : Array Value, w.heap[g]? = some (.cells cur t (0, 0)) ∧ ∀ j, j < m → cur[j]? = some (.int .i64 (f j))
theorem eR.lt {w : World} {t : TypeId} {g m : Nat} {f : Nat → Int} (h : eR w t g m f) : g < w.heap.size := by
 obtain ⟨cur, hc, _⟩ := h
 exact (Array.getElem?_eq_some_iff.1 hc).1
theorem eR.same {w w' : World} {t : TypeId} {g m : Nat} {f : Nat → Int} (h : eR w t g m f) (e : w'.heap[g]? = w.heap[g]?) : eR w' t g m f := by
 obtain ⟨cur, hc, hs⟩ := h
 exact ⟨cur, by rw [e]; exact hc, hs⟩
theorem eR.kept {w w' : World} {t : TypeId} {g m : Nat} {f : Nat → Int} (h : eR w t g m f) (hB : Below w.heap.size w w') : eR w' t g m f := h.same (hB.block g h.lt)
theorem eR.congr {w : World} {t : TypeId} {g m : Nat} {f f' : Nat → Int} (h : eR w t g m f) (e : ∀ j, j < m → f j = f' j) : eR w t g m f' := by
 obtain ⟨cur, hc, hs⟩ := h
 exact ⟨cur, hc, fun j hj => by rw [hs j hj, e j hj]⟩
theorem eR.cell {w : World} {t : TypeId} {g m j : Nat} {f : Nat → Int} (h : eR w t g m f) (hj : j < m) : w.cell? ⟨g, j, none⟩ = some (.int .i64 (f j)) := by
 obtain ⟨cur, hc, hs⟩ := h
 rw [cell_of_row w g j cur t _ hc]
 exact hs j hj
theorem eR.free {w : World} {t : TypeId} {g m : Nat} {f : Nat → Int} (h : eR w t g m f) (j : Nat) : w.frozen? ⟨g, j, none⟩ = false := by
 obtain ⟨cur, hc, _⟩ := h
 exact frozen_of_row w g j cur t hc
theorem eR.set {w : World} {t : TypeId} {g m : Nat} {f : Nat → Int} (h : eR w t g m f) (i : Nat) (v : Int) : eR (w.setCell ⟨g, i, none⟩ (.int .i64 v)) t g m (fun j => if j = i then v else f j) := by
 obtain ⟨cur, hc, hs⟩ := h
 refine ⟨_, heap_setCell_same w g i cur t (.int .i64 v) hc, fun j hj => ?_⟩
 have := hs j hj
 rw [Array.getElem?_setIfInBounds]
 by_cases e : i = j
 ·subst e
  simp [(Array.getElem?_eq_some_iff.1 this).1]
 ·have e' : ¬ j = i := fun h => e (Eq.symm h)
  simp [e, e', this]
theorem gP (w : World) (row : Option Nat) : w.grownBy w row := ⟨rfl, rfl, rfl, Nat.le_refl _, fun _ _ _ => rfl⟩
theorem jX {w w1 : World} {g : Nat} (h : w.grownBy w1 (some g)) (i : Nat) (v : Value) : w.grownBy (w1.setCell ⟨g, i, none⟩ v) (some g) :=
 ⟨h.os, h.tape, h.output, by simpa [World.setCell] using h.size, fun k hk hne => by rw [Below.heap_setCell _ _ _ _ (fun e => hne (by rw [e]))]; exact h.block k hk hne⟩
end
section
open Go.RowKit Go.Sort
def SAt (w : World) (b : Nat) (vs : List Value) : Prop := ∀ i v, vs[i]? = some v → w.cell? ⟨b, i, none⟩ = some v
theorem SAt.lt {w : World} {b : Nat} {v : Value} {vs : List Value} (h : SAt w b (v :: vs)) : b < w.heap.size := World.block_lt_of_cell? w _ (h 0 v rfl)
theorem SAt.kept {w w' : World} {b : Nat} {v : Value} {vs : List Value} (h : SAt w b (v :: vs)) (hB : Below w.heap.size w w') : SAt w' b (v :: vs) := fun i u hu => by
 rw [hB.cell (p := ⟨b, i, none⟩) h.lt]; exact h i u hu
theorem SAt.c3 {w : World} {b : Nat} {x y z : Value} (h : SAt w b [x, y, z]) : w.cell? ⟨b, 0, none⟩ = some x ∧ w.cell? ⟨b, 1, none⟩ = some y ∧ w.cell? ⟨b, 2, none⟩ = some z := ⟨h 0 x rfl, h 1 y rfl, h 2 z rfl⟩
theorem SAt.c5 {w : World} {b : Nat} {x y z u v : Value} (h : SAt w b [x, y, z, u, v]) : w.cell? ⟨b, 0, none⟩ = some x ∧ w.cell? ⟨b, 1, none⟩ = some y ∧ w.cell? ⟨b, 2, none⟩ = some z ∧ w.cell? ⟨b, 3, none⟩ = some u ∧ w.cell? ⟨b, 4, none⟩ = some v := ⟨h 0 x rfl, h 1 y rfl, h 2 z rfl, h 3 u rfl, h 4 v rfl⟩
end
section
structure Fr where
 wd : Nat
 ht : Nat
 px : Nat → Nat
 lv : Int
def Fr.n (f : Fr) : Nat := f.wd * f.ht
def cnt (T : Nat → Bool) : Nat → Nat
 | 0 => 0
 | n + 1 => cnt T n + if T n = true then 1 else 0
theorem Bm (T : Nat → Bool) : ∀ n, cnt T n ≤ n
 | 0 => Nat.le_refl _
 | n + 1 => by unfold cnt; have := Bm T n; split <;> omega
structure Good (f : Fr) (c : Nat) (s : (Nat → Bool) × List Nat) : Prop where
 num : cnt s.1 f.n = c + s.2.length
 lies : ∀ j ∈ s.2, j < f.n
theorem Good.len {f : Fr} {c : Nat} {s : (Nat → Bool) × List Nat} (h : Good f c s) : c + s.2.length ≤ f.n := by rw [← h.num]; exact Bm _ _
structure Bl where
 ar : Nat
 su : Nat
 sx : Nat
 sy : Nat
 ed : Bool
end
section
open Go.RowKit Go.Sort
theorem wt (x y z : Int) (w : World) :
  Calls Tryz.prog 64 #[.agg #[.int .i64 x, .int .i64 y, .int .i64 z]] w fun e w' => e = .returned (.bool (cz x y z)) ∧ Below w.heap.size w w' := by
 have A0 := aF w x y z 58
 have B0 := an w (.cells #[.int .i64 x, .int .i64 y, .int .i64 z] 58)
 have cR := yz (fun W => iN x y z W)
 have cW := yz (fun W => gn 1800 x y z W (by omega) (by omega))
 have HW : Hid (cz x y z = (ax x y z && aK 1800 x y z)) := yz rfl
 generalize cz x y z = wv at *
 generalize aK 1800 x y z = wi at *
 go_enter Tryz.func64, Tryz.ntmps64
 go_wp2_with fail
 refine (yy cR _).mono ?_
 rintro e w1 ⟨rfl, hx⟩
 obtain ⟨c0, c1, c2⟩ := A0.kept (World.block_lt_of_cell? _ _ A0.1) hx
 have B1 := ak B0 hx
 clear hx B0 A0
 cases hr : ax x y z
 ·rw [hr] at HW
  go_wp2_with fail
  go_ret
  exact ⟨by rw [yy HW]; rfl, B1⟩
 ·rw [hr] at HW
  go_wp2_with fail
  refine (yy cW _).mono ?_
  rintro e w2 ⟨rfl, hx⟩
  have B2 := ak B1 hx
  clear hx B1
  go_wp2_with fail
  go_ret
  exact ⟨by rw [yy HW]; rfl, B2⟩
end
end Go.Proofs.YtlleafjdgblhcaaGreatDoor

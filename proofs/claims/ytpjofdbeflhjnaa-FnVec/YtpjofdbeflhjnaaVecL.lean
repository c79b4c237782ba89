/- CosCmp, the specification's: whole. -/
import Derived.Test.YtpjofdbeflhjnaaVecK
namespace Go.Proofs.Ytpjofdbeflhjnaa
open Go.RowKit Go.Sort
set_option linter.unusedVariables false

theorem sq_fits {p q r P Q : Int} (h1 : -P ≤ p ∧ p ≤ P) (h2 : -Q ≤ q ∧ q ≤ Q) (h3 : -Q ≤ r ∧ r ≤ Q) (k1 : P * P ≤ 9223372036854775807) (k3 : Q * Q ≤ 9223372036854775807) (k4 : (P * P) * (Q * Q) ≤ 9223372036854775807) :
    wrap64 (wrap64 (p * p) * wrap64 (q * r)) = p * p * (q * r) := by
  have m1 := mulB h1 h1
  have m2 := mulB h2 h3
  have m3 := mulB m1 m2
  rw [wrap_id (n := p * p) (by omega) (by omega), wrap_id (n := q * r) (by omega) (by omega), wrap_id (by omega) (by omega)]
theorem cos_eq2 {a1 a2 a3 b1 b2 b3 c1 c2 c3 d1 d2 d3 : Int} (ha : wideB a1 a2 a3 = true) (hb : wideB b1 b2 b3 = true) (hc : smallB c1 c2 c3 = true) (hd : smallB d1 d2 d3 = true) :
    cosI a1 a2 a3 b1 b2 b3 c1 c2 c3 d1 d2 d3 = cosS (dotW a1 a2 a3 b1 b2 b3) (dotW c1 c2 c3 d1 d2 d3) (wrap64 (wrap64 (dotW a1 a2 a3 b1 b2 b3 * dotW a1 a2 a3 b1 b2 b3) * wrap64 (dotW c1 c2 c3 c1 c2 c3 * dotW d1 d2 d3 d1 d2 d3))) (wrap64 (wrap64 (dotW c1 c2 c3 d1 d2 d3 * dotW c1 c2 c3 d1 d2 d3) * wrap64 (dotW a1 a2 a3 a1 a2 a3 * dotW b1 b2 b3 b1 b2 b3))) := by
  have wa := (wideB_iff ha).2
  have wb := (wideB_iff hb).2
  have wc := (smallB_iff hc).2
  have wd := (smallB_iff hd).2
  have pa := sq_pos (rightB_iff.1 (wideB_iff ha).1).2
  have pb := sq_pos (rightB_iff.1 (wideB_iff hb).1).2
  have pc := sq_pos (rightB_iff.1 (smallB_iff hc).1).2
  have pd := sq_pos (rightB_iff.1 (smallB_iff hd).1).2
  unfold cosI
  rw [ha, hb, hc, hd, if_pos (by rfl)]
  rw [dotW_eq wa wb (by omega), dotW_eq wc wc (by omega), dotW_eq wd wd (by omega), dotW_eq wc wd (by omega), dotW_eq wa wa (by omega), dotW_eq wb wb (by omega)]
  have x1 := dot_bound wa wb
  have x2 := dot_bound wc wc
  have x3 := dot_bound wd wd
  have x4 := dot_bound wc wd
  have x5 := dot_bound wa wa
  have x6 := dot_bound wb wb
  rw [sq_fits (P := 9720000) (Q := 300) (by omega) (by omega) (by omega) (by omega) (by omega) (by omega), sq_fits (P := 300) (Q := 9720000) (by omega) (by omega) (by omega) (by omega) (by omega) (by omega)]
  exact (cos_spec (Int.mul_pos pc pd) (Int.mul_pos pa pb)).symm

set_option maxHeartbeats 1000000 in
set_option maxRecDepth 100000 in
theorem specCos_any (a1 a2 a3 b1 b2 b3 c1 c2 c3 d1 d2 d3 : Int) (w : World) :
    Calls Try.prog 32 #[.agg #[.int .i64 a1, .int .i64 a2, .int .i64 a3], .agg #[.int .i64 b1, .int .i64 b2, .int .i64 b3], .agg #[.int .i64 c1, .int .i64 c2, .int .i64 c3], .agg #[.int .i64 d1, .int .i64 d2, .int .i64 d3]] w fun e w' => e = .returned (.int .i64 (cosI a1 a2 a3 b1 b2 b3 c1 c2 c3 d1 d2 d3)) ∧ Below w.heap.size w w' := by
  go_enter Try.func32, Try.ntmps32
  go_wp2_with fail
  have va : VecAt ((((w.alloc (.cells #[.int .i64 a1, .int .i64 a2, .int .i64 a3] 35)).alloc (.cells #[.int .i64 b1, .int .i64 b2, .int .i64 b3] 35)).alloc (.cells #[.int .i64 c1, .int .i64 c2, .int .i64 c3] 35)).alloc (.cells #[.int .i64 d1, .int .i64 d2, .int .i64 d3] 35)) w.heap.size a1 a2 a3 := ((((by simpa using vecAt_new w a1 a2 a3 35 : VecAt (w.alloc (.cells #[.int .i64 a1, .int .i64 a2, .int .i64 a3] 35)) w.heap.size a1 a2 a3).alloc (by simp <;> omega) _).alloc (by simp <;> omega) _).alloc (by simp <;> omega) _)
  have vb : VecAt ((((w.alloc (.cells #[.int .i64 a1, .int .i64 a2, .int .i64 a3] 35)).alloc (.cells #[.int .i64 b1, .int .i64 b2, .int .i64 b3] 35)).alloc (.cells #[.int .i64 c1, .int .i64 c2, .int .i64 c3] 35)).alloc (.cells #[.int .i64 d1, .int .i64 d2, .int .i64 d3] 35)) (w.heap.size + 1) b1 b2 b3 := (((by simpa using vecAt_new (w.alloc (.cells #[.int .i64 a1, .int .i64 a2, .int .i64 a3] 35)) b1 b2 b3 35 : VecAt ((w.alloc (.cells #[.int .i64 a1, .int .i64 a2, .int .i64 a3] 35)).alloc (.cells #[.int .i64 b1, .int .i64 b2, .int .i64 b3] 35)) (w.heap.size + 1) b1 b2 b3).alloc (by simp <;> omega) _).alloc (by simp <;> omega) _)
  have vc : VecAt ((((w.alloc (.cells #[.int .i64 a1, .int .i64 a2, .int .i64 a3] 35)).alloc (.cells #[.int .i64 b1, .int .i64 b2, .int .i64 b3] 35)).alloc (.cells #[.int .i64 c1, .int .i64 c2, .int .i64 c3] 35)).alloc (.cells #[.int .i64 d1, .int .i64 d2, .int .i64 d3] 35)) (w.heap.size + 1 + 1) c1 c2 c3 := ((by simpa using vecAt_new ((w.alloc (.cells #[.int .i64 a1, .int .i64 a2, .int .i64 a3] 35)).alloc (.cells #[.int .i64 b1, .int .i64 b2, .int .i64 b3] 35)) c1 c2 c3 35 : VecAt (((w.alloc (.cells #[.int .i64 a1, .int .i64 a2, .int .i64 a3] 35)).alloc (.cells #[.int .i64 b1, .int .i64 b2, .int .i64 b3] 35)).alloc (.cells #[.int .i64 c1, .int .i64 c2, .int .i64 c3] 35)) (w.heap.size + 1 + 1) c1 c2 c3).alloc (by simp <;> omega) _)
  have vd : VecAt ((((w.alloc (.cells #[.int .i64 a1, .int .i64 a2, .int .i64 a3] 35)).alloc (.cells #[.int .i64 b1, .int .i64 b2, .int .i64 b3] 35)).alloc (.cells #[.int .i64 c1, .int .i64 c2, .int .i64 c3] 35)).alloc (.cells #[.int .i64 d1, .int .i64 d2, .int .i64 d3] 35)) (w.heap.size + 1 + 1 + 1) d1 d2 d3 := (by simpa using vecAt_new (((w.alloc (.cells #[.int .i64 a1, .int .i64 a2, .int .i64 a3] 35)).alloc (.cells #[.int .i64 b1, .int .i64 b2, .int .i64 b3] 35)).alloc (.cells #[.int .i64 c1, .int .i64 c2, .int .i64 c3] 35)) d1 d2 d3 35 : VecAt ((((w.alloc (.cells #[.int .i64 a1, .int .i64 a2, .int .i64 a3] 35)).alloc (.cells #[.int .i64 b1, .int .i64 b2, .int .i64 b3] 35)).alloc (.cells #[.int .i64 c1, .int .i64 c2, .int .i64 c3] 35)).alloc (.cells #[.int .i64 d1, .int .i64 d2, .int .i64 d3] 35)) (w.heap.size + 1 + 1 + 1) d1 d2 d3)
  have hB : Below w.heap.size w ((((w.alloc (.cells #[.int .i64 a1, .int .i64 a2, .int .i64 a3] 35)).alloc (.cells #[.int .i64 b1, .int .i64 b2, .int .i64 b3] 35)).alloc (.cells #[.int .i64 c1, .int .i64 c2, .int .i64 c3] 35)).alloc (.cells #[.int .i64 d1, .int .i64 d2, .int .i64 d3] 35)) := below4 _ _ _ _ _
  generalize ((((w.alloc (.cells #[.int .i64 a1, .int .i64 a2, .int .i64 a3] 35)).alloc (.cells #[.int .i64 b1, .int .i64 b2, .int .i64 b3] 35)).alloc (.cells #[.int .i64 c1, .int .i64 c2, .int .i64 c3] 35)).alloc (.cells #[.int .i64 d1, .int .i64 d2, .int .i64 d3] 35)) = w0 at va vb vc vd hB ⊢
  have ha := va
  have hb := vb
  have hc := vc
  have hd := vd
  obtain ⟨ca0, ca1, ca2⟩ := va
  obtain ⟨cb0, cb1, cb2⟩ := vb
  obtain ⟨cc0, cc1, cc2⟩ := vc
  obtain ⟨cd0, cd1, cd2⟩ := vd
  refine (specRight_any a1 a2 a3 _).mono ?_
  rintro e w1 ⟨rfl, hx⟩
  have va := ha.kept (VecAt.in ha) hx
  have vb := hb.kept (VecAt.in hb) hx
  have vc := hc.kept (VecAt.in hc) hx
  have vd := hd.kept (VecAt.in hd) hx
  replace hB := below_call hB hx
  clear ca0 ca1 ca2 cb0 cb1 cb2 cc0 cc1 cc2 cd0 cd1 cd2 ha hb hc hd hx
  have ha := va
  have hb := vb
  have hc := vc
  have hd := vd
  obtain ⟨ca0, ca1, ca2⟩ := va
  obtain ⟨cb0, cb1, cb2⟩ := vb
  obtain ⟨cc0, cc1, cc2⟩ := vc
  obtain ⟨cd0, cd1, cd2⟩ := vd
  cases ra : rightB a1 a2 a3
  · have HZ := hide (show cosI a1 a2 a3 b1 b2 b3 c1 c2 c3 d1 d2 d3 = 0 by simp [cosI, wideB, smallB, ra])
    go_wp2_with fail
    go_ret
    exact ⟨by rw [unhide HZ]; rfl, hB⟩
  · go_wp2_with fail
    refine (specRight_any b1 b2 b3 _).mono ?_
    rintro e w2 ⟨rfl, hx⟩
    have va := ha.kept (VecAt.in ha) hx
    have vb := hb.kept (VecAt.in hb) hx
    have vc := hc.kept (VecAt.in hc) hx
    have vd := hd.kept (VecAt.in hd) hx
    replace hB := below_call hB hx
    clear ca0 ca1 ca2 cb0 cb1 cb2 cc0 cc1 cc2 cd0 cd1 cd2 ha hb hc hd hx
    have ha := va
    have hb := vb
    have hc := vc
    have hd := vd
    obtain ⟨ca0, ca1, ca2⟩ := va
    obtain ⟨cb0, cb1, cb2⟩ := vb
    obtain ⟨cc0, cc1, cc2⟩ := vc
    obtain ⟨cd0, cd1, cd2⟩ := vd
    cases rb : rightB b1 b2 b3
    · have HZ := hide (show cosI a1 a2 a3 b1 b2 b3 c1 c2 c3 d1 d2 d3 = 0 by simp [cosI, wideB, smallB, rb])
      go_wp2_with fail
      go_ret
      exact ⟨by rw [unhide HZ]; rfl, hB⟩
    · go_wp2_with fail
      refine (specRight_any c1 c2 c3 _).mono ?_
      rintro e w3 ⟨rfl, hx⟩
      have va := ha.kept (VecAt.in ha) hx
      have vb := hb.kept (VecAt.in hb) hx
      have vc := hc.kept (VecAt.in hc) hx
      have vd := hd.kept (VecAt.in hd) hx
      replace hB := below_call hB hx
      clear ca0 ca1 ca2 cb0 cb1 cb2 cc0 cc1 cc2 cd0 cd1 cd2 ha hb hc hd hx
      have ha := va
      have hb := vb
      have hc := vc
      have hd := vd
      obtain ⟨ca0, ca1, ca2⟩ := va
      obtain ⟨cb0, cb1, cb2⟩ := vb
      obtain ⟨cc0, cc1, cc2⟩ := vc
      obtain ⟨cd0, cd1, cd2⟩ := vd
      cases rc : rightB c1 c2 c3
      · have HZ := hide (show cosI a1 a2 a3 b1 b2 b3 c1 c2 c3 d1 d2 d3 = 0 by simp [cosI, wideB, smallB, rc])
        go_wp2_with fail
        go_ret
        exact ⟨by rw [unhide HZ]; rfl, hB⟩
      · go_wp2_with fail
        refine (specRight_any d1 d2 d3 _).mono ?_
        rintro e w4 ⟨rfl, hx⟩
        have va := ha.kept (VecAt.in ha) hx
        have vb := hb.kept (VecAt.in hb) hx
        have vc := hc.kept (VecAt.in hc) hx
        have vd := hd.kept (VecAt.in hd) hx
        replace hB := below_call hB hx
        clear ca0 ca1 ca2 cb0 cb1 cb2 cc0 cc1 cc2 cd0 cd1 cd2 ha hb hc hd hx
        have ha := va
        have hb := vb
        have hc := vc
        have hd := vd
        obtain ⟨ca0, ca1, ca2⟩ := va
        obtain ⟨cb0, cb1, cb2⟩ := vb
        obtain ⟨cc0, cc1, cc2⟩ := vc
        obtain ⟨cd0, cd1, cd2⟩ := vd
        cases rd : rightB d1 d2 d3
        · have HZ := hide (show cosI a1 a2 a3 b1 b2 b3 c1 c2 c3 d1 d2 d3 = 0 by simp [cosI, wideB, smallB, rd])
          go_wp2_with fail
          go_ret
          exact ⟨by rw [unhide HZ]; rfl, hB⟩
        · go_wp2_with fail
          refine (l02Within_any 1800 a1 a2 a3 _ (by omega) (by omega)).mono ?_
          rintro e w5 ⟨rfl, hx⟩
          have va := ha.kept (VecAt.in ha) hx
          have vb := hb.kept (VecAt.in hb) hx
          have vc := hc.kept (VecAt.in hc) hx
          have vd := hd.kept (VecAt.in hd) hx
          replace hB := below_call hB hx
          clear ca0 ca1 ca2 cb0 cb1 cb2 cc0 cc1 cc2 cd0 cd1 cd2 ha hb hc hd hx
          have ha := va
          have hb := vb
          have hc := vc
          have hd := vd
          obtain ⟨ca0, ca1, ca2⟩ := va
          obtain ⟨cb0, cb1, cb2⟩ := vb
          obtain ⟨cc0, cc1, cc2⟩ := vc
          obtain ⟨cd0, cd1, cd2⟩ := vd
          cases na : withinB 1800 a1 a2 a3
          · have HZ := hide (show cosI a1 a2 a3 b1 b2 b3 c1 c2 c3 d1 d2 d3 = 0 by simp [cosI, wideB, smallB, na])
            go_wp2_with fail
            go_ret
            exact ⟨by rw [unhide HZ]; rfl, hB⟩
          · go_wp2_with fail
            refine (l02Within_any 1800 b1 b2 b3 _ (by omega) (by omega)).mono ?_
            rintro e w6 ⟨rfl, hx⟩
            have va := ha.kept (VecAt.in ha) hx
            have vb := hb.kept (VecAt.in hb) hx
            have vc := hc.kept (VecAt.in hc) hx
            have vd := hd.kept (VecAt.in hd) hx
            replace hB := below_call hB hx
            clear ca0 ca1 ca2 cb0 cb1 cb2 cc0 cc1 cc2 cd0 cd1 cd2 ha hb hc hd hx
            have ha := va
            have hb := vb
            have hc := vc
            have hd := vd
            obtain ⟨ca0, ca1, ca2⟩ := va
            obtain ⟨cb0, cb1, cb2⟩ := vb
            obtain ⟨cc0, cc1, cc2⟩ := vc
            obtain ⟨cd0, cd1, cd2⟩ := vd
            cases nb : withinB 1800 b1 b2 b3
            · have HZ := hide (show cosI a1 a2 a3 b1 b2 b3 c1 c2 c3 d1 d2 d3 = 0 by simp [cosI, wideB, smallB, nb])
              go_wp2_with fail
              go_ret
              exact ⟨by rw [unhide HZ]; rfl, hB⟩
            · go_wp2_with fail
              refine (l02Within_any 10 c1 c2 c3 _ (by omega) (by omega)).mono ?_
              rintro e w7 ⟨rfl, hx⟩
              have va := ha.kept (VecAt.in ha) hx
              have vb := hb.kept (VecAt.in hb) hx
              have vc := hc.kept (VecAt.in hc) hx
              have vd := hd.kept (VecAt.in hd) hx
              replace hB := below_call hB hx
              clear ca0 ca1 ca2 cb0 cb1 cb2 cc0 cc1 cc2 cd0 cd1 cd2 ha hb hc hd hx
              have ha := va
              have hb := vb
              have hc := vc
              have hd := vd
              obtain ⟨ca0, ca1, ca2⟩ := va
              obtain ⟨cb0, cb1, cb2⟩ := vb
              obtain ⟨cc0, cc1, cc2⟩ := vc
              obtain ⟨cd0, cd1, cd2⟩ := vd
              cases nc : withinB 10 c1 c2 c3
              · have HZ := hide (show cosI a1 a2 a3 b1 b2 b3 c1 c2 c3 d1 d2 d3 = 0 by simp [cosI, wideB, smallB, nc])
                go_wp2_with fail
                go_ret
                exact ⟨by rw [unhide HZ]; rfl, hB⟩
              · go_wp2_with fail
                refine (l02Within_any 10 d1 d2 d3 _ (by omega) (by omega)).mono ?_
                rintro e w8 ⟨rfl, hx⟩
                have va := ha.kept (VecAt.in ha) hx
                have vb := hb.kept (VecAt.in hb) hx
                have vc := hc.kept (VecAt.in hc) hx
                have vd := hd.kept (VecAt.in hd) hx
                replace hB := below_call hB hx
                clear ca0 ca1 ca2 cb0 cb1 cb2 cc0 cc1 cc2 cd0 cd1 cd2 ha hb hc hd hx
                have ha := va
                have hb := vb
                have hc := vc
                have hd := vd
                obtain ⟨ca0, ca1, ca2⟩ := va
                obtain ⟨cb0, cb1, cb2⟩ := vb
                obtain ⟨cc0, cc1, cc2⟩ := vc
                obtain ⟨cd0, cd1, cd2⟩ := vd
                cases nd : withinB 10 d1 d2 d3
                · have HZ := hide (show cosI a1 a2 a3 b1 b2 b3 c1 c2 c3 d1 d2 d3 = 0 by simp [cosI, wideB, smallB, nd])
                  go_wp2_with fail
                  go_ret
                  exact ⟨by rw [unhide HZ]; rfl, hB⟩
                · go_wp2_with fail
                  have HD := hide (cos_eq2 (a1 := a1) (a2 := a2) (a3 := a3) (b1 := b1) (b2 := b2) (b3 := b3) (c1 := c1) (c2 := c2) (c3 := c3) (d1 := d1) (d2 := d2) (d3 := d3) (by simp [wideB, ra, na]) (by simp [wideB, rb, nb]) (by simp [smallB, rc, nc]) (by simp [smallB, rd, nd]))
                  refine (l02Cos_any a1 a2 a3 b1 b2 b3 c1 c2 c3 d1 d2 d3 _).mono ?_
                  rintro e w9 ⟨rfl, hx⟩
                  replace hB := below_call hB hx
                  go_wp2_with fail
                  go_ret
                  exact ⟨by rw [unhide HD]; rfl, hB⟩
end Go.Proofs.Ytpjofdbeflhjnaa

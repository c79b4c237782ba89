/- Several texts in one: SkyE, SkyF, SkyG. -/
import Derived.OwnWalk
import Derived.Laws.OwnMore
import Derived.Test.YtjdehbpgdplolaaGreatDoorQLookOwn4
namespace Go.Proofs.YtjdehbpgdplolaaGreatDoor
open Go.RowKit Go.Sort
set_option linter.unusedVariables false

theorem eqB_comm (a1 a2 a3 b1 b2 b3 : Int) : eqB a1 a2 a3 b1 b2 b3 = eqI b1 b2 b3 a1 a2 a3 := by
  unfold eqB eqI
  congr 1
  apply propext
  constructor <;> rintro ⟨h1, h2, h3⟩ <;> exact ⟨h1.symm, h2.symm, h3.symm⟩
theorem okAt_no1 {L : List St} {i : Nat} {s1 s2 s3 s4 : Int} (hs : stA L i = (s1, s2, s3, s4)) (h : idB s1 = false) : okAt L i = false := by unfold okAt; rw [hs]; simp [h]
theorem okAt_no2 {L : List St} {i : Nat} (h : upB L i = false) : okAt L i = false := by unfold okAt; simp [h]
theorem okAt_no3 {L : List St} {i : Nat} {s1 s2 s3 s4 : Int} (hs : stA L i = (s1, s2, s3, s4)) (h : smallB s2 s3 s4 = false) : okAt L i = false := by unfold okAt; rw [hs]; simp [h]
theorem okAt_no4 {L : List St} {i : Nat} {s1 s2 s3 s4 : Int} (hs : stA L i = (s1, s2, s3, s4)) (h : primeB s2 s3 s4 = false) : okAt L i = false := by unfold okAt; rw [hs]; simp [h]
theorem okAt_no5 {L : List St} {i : Nat} (h : takenB L (stA L i) i = true) : okAt L i = false := by unfold okAt; simp [h]
theorem okAt_yes {L : List St} {i : Nat} {s1 s2 s3 s4 : Int} (hs : stA L i = (s1, s2, s3, s4)) (h1 : idB s1 = true) (h2 : upB L i = true) (h3 : smallB s2 s3 s4 = true) (h4 : primeB s2 s3 s4 = true) (h5 : takenB L (stA L i) i = false) : okAt L i = true := by
  unfold okAt
  rw [h5, h2, hs]
  simp [h1, h3, h4]

set_option maxHeartbeats 8000000 in
set_option maxRecDepth 100000 in
theorem specSky_any (L : List St) (a : Option Addr) (c : Nat) (w : World) (hn : L.length ≤ 1048576) (hS : Stars w a L L.length) :
    Calls Tryz.prog 35 #[.slice a L.length c] w fun e w' => e = .returned (.bool (skyB L)) ∧ Below w.heap.size w w' := by
  obtain ⟨n, hnl⟩ : ∃ n, L.length = n := ⟨_, rfl⟩
  rw [hnl] at hn hS ⊢
  have HL := hide hnl
  clear hnl
  by_cases h12 : 12 < n
  · have h12' : (12 : Int) < (n : Int) := by omega
    have HO : Hid (skyB L = false) := hide (sky_long (by rw [unhide HL]; exact h12))
    clear hS
    go_enter Tryz.func35, Tryz.ntmps35
    go_wp2
    go_ret
    exact ⟨by rw [unhide HO]; rfl, Below.refl _ _⟩
  have h12' : ¬ (12 : Int) < (n : Int) := by omega
  rcases hS with rfl | ⟨b, o, rfl, hb, hc⟩
  · have HO : Hid (skyB L = true) := hide (sky_yes (by rw [unhide HL]; omega) (by rw [unhide HL]; intro j hj; omega))
    go_enter Tryz.func35, Tryz.ntmps35
    go_wp2_with fail
    refine wp_loop_rounds 1 ?_
    rw [rounds_succ]
    go_wp2_with fail
    go_ret
    exact ⟨by rw [unhide HO]; rfl, Below.refl _ _⟩
  have HC := hide hc
  clear hc
  go_enter Tryz.func35, Tryz.ntmps35
  go_wp2_with fail
  go_loopw [3] (fun i wr => ∃ k : Nat, k ≤ n ∧ i = .int .i64 k ∧ Hid (okTo L k) ∧ Hid (Below w.heap.size w wr)) (fun i _ => n - (intOf i).toNat)
  case atStart => exact ⟨0, by omega, rfl, hide (fun j hj => absurd hj (Nat.not_lt_zero _)), hide (Below.refl _ _)⟩
  case round =>
    obtain ⟨k, hk, rfl, HF, HB⟩ := hrel
    by_cases hkn : k < n
    · obtain ⟨⟨s1, s2, s3, s4⟩, hs⟩ : ∃ s, stA L k = s := ⟨_, rfl⟩
      have hst := ((unhide HC) k hkn).kept hb (unhide HB)
      rw [hs] at hst
      obtain ⟨c0, c1, c2, c3⟩ := hst
      have HT := hide hs
      clear hs
      have hkn2 : (k : Int) < (n : Int) := by omega
      have B1 := hide ((unhide HB).alloc (unhide HB).size (.cells #[.int .i64 s2, .int .i64 s3, .int .i64 s4] 54))
      have N1 := hide (vecAt_new wr s2 s3 s4 54)
      rcases Nat.eq_zero_or_pos k with hk0 | hk0
      · subst hk0
        go_wp2_with fail
        clear c0 c1 c2 c3
        have hb1 := unhide B1
        have hn1 := unhide N1
        generalize hwe : wr.alloc (.cells #[.int .i64 s2, .int .i64 s3, .int .i64 s4] 54) = W1 at hb1 hn1 ⊢
        generalize hwb : wr.heap.size = vb at hn1 ⊢
        have HB1 := hide hb1
        have HN1 := hide hn1
        clear hwe hwb hb1 hn1 B1 N1 HB
        obtain ⟨v0, v1, v2⟩ := unhide HN1
        have r0 := cell_regrown v0
        have r1 := cell_regrown v1
        have r2 := cell_regrown v2
        clear v0 v1 v2
        have hst := ((unhide HC) (0) hkn).kept hb (unhide HB1)
        rw [unhide HT] at hst
        have hst1 := hst.1
        simp only [Nat.zero_mul, Nat.add_zero] at hst1
        have q0 := cell_regrown hst1
        clear hst hst1
        have cI : Hid (∀ W : World, Calls Tryz.prog 36 #[.int .i64 s1, .int .i64 1, .int .i64 9999] W fun e w' => e = .returned (.bool (idB s1)) ∧ Below W.heap.size W w') := hide (fun W => (l02Is_any s1 1 9999 W).mono fun e w' h => ⟨h.1, by rw [h.2]; exact Below.refl _ _⟩)
        have cR := hide (fun W => specRight_any s2 s3 s4 W)
        have cW := hide (fun W => l02Within_any 10 s2 s3 s4 W (by omega) (by omega))
        cases hid : idB s1
        · have HO : Hid (skyB L = false) := hide (sky_no (k := 0) (by rw [unhide HL]; exact hkn) (okAt_no1 (unhide HT) hid))
          rw [hid] at cI
          refine wp_region_quiet_below (by kernel_rfl) (by kernel_rfl) ?_
          repeat (go_big_quiet_step (first | (with_reducible exact Calls.regrown_of (unhide cI _))))
          refine wpQuiet_nil ?_
          intro _ hw'
          obtain ⟨⟨dq, osq⟩, hw''⟩ := hw'
          subst hw''
          have hx := below_call (unhide HB1) (below_regrown W1 dq osq)
          go_wp2_with fail
          go_ret
          exact ⟨by rw [unhide HO]; rfl, hx⟩
        · rw [hid] at cI
          have HU : Hid (upB L 0 = true) := hide rfl
          cases hr : rightB s2 s3 s4
          · have HO : Hid (skyB L = false) := hide (sky_no (k := 0) (by rw [unhide HL]; exact hkn) (okAt_no3 (unhide HT) (by unfold smallB; rw [hr]; rfl)))
            rw [hr] at cR
            refine wp_region_quiet_below (by kernel_rfl) (by kernel_rfl) ?_
            repeat (go_big_quiet_step (first | (with_reducible exact Calls.regrown_of (unhide cI _)) | (with_reducible exact Calls.regrown_of (unhide cR _))))
            refine wpQuiet_nil ?_
            intro _ hw'
            obtain ⟨⟨dq, osq⟩, hw''⟩ := hw'
            subst hw''
            have hx := below_call (unhide HB1) (below_regrown W1 dq osq)
            go_wp2_with fail
            go_ret
            exact ⟨by rw [unhide HO]; rfl, hx⟩
          · rw [hr] at cR
            have cP := hide (fun W => l02Prime_any s2 s3 s4 W hr)
            cases hwi : withinB 10 s2 s3 s4
            · have HO : Hid (skyB L = false) := hide (sky_no (k := 0) (by rw [unhide HL]; exact hkn) (okAt_no3 (unhide HT) (by unfold smallB; rw [hwi]; simp)))
              rw [hwi] at cW
              refine wp_region_quiet_below (by kernel_rfl) (by kernel_rfl) ?_
              repeat (go_big_quiet_step (first | (with_reducible exact Calls.regrown_of (unhide cI _)) | (with_reducible exact Calls.regrown_of (unhide cR _)) | (with_reducible exact Calls.regrown_of (unhide cW _))))
              refine wpQuiet_nil ?_
              intro _ hw'
              obtain ⟨⟨dq, osq⟩, hw''⟩ := hw'
              subst hw''
              have hx := below_call (unhide HB1) (below_regrown W1 dq osq)
              go_wp2_with fail
              go_ret
              exact ⟨by rw [unhide HO]; rfl, hx⟩
            · rw [hwi] at cW
              have hq := fun W => neq_vec (wrap64 (s2.tdiv (gI s2 s3 s4))) (wrap64 (s3.tdiv (gI s2 s3 s4))) (wrap64 (s4.tdiv (gI s2 s3 s4))) s2 s3 s4 W
              have hq2 : eqB (wrap64 (s2.tdiv (gI s2 s3 s4))) (wrap64 (s3.tdiv (gI s2 s3 s4))) (wrap64 (s4.tdiv (gI s2 s3 s4))) s2 s3 s4 = primeB s2 s3 s4 := by rw [eqB_comm]; unfold primeB prI; rw [hr]; rfl
              rw [hq2] at hq
              clear hq2
              generalize wrap64 (s2.tdiv (gI s2 s3 s4)) = t2 at cP hq
              generalize wrap64 (s3.tdiv (gI s2 s3 s4)) = t3 at cP hq
              generalize wrap64 (s4.tdiv (gI s2 s3 s4)) = t4 at cP hq
              cases hpr : primeB s2 s3 s4
              · have HO : Hid (skyB L = false) := hide (sky_no (k := 0) (by rw [unhide HL]; exact hkn) (okAt_no4 (unhide HT) hpr))
                rw [hpr] at hq
                refine wp_region_quiet_below (by kernel_rfl) (by kernel_rfl) ?_
                repeat (go_big_quiet_step (first | (with_reducible exact Calls.regrown_of (unhide cI _)) | (with_reducible exact Calls.regrown_of (unhide cR _)) | (with_reducible exact Calls.regrown_of (unhide cW _)) | (with_reducible exact Calls.regrown_of (unhide cP _))))
                refine wpQuiet_nil ?_
                intro _ hw'
                obtain ⟨⟨dq, osq⟩, hw''⟩ := hw'
                subst hw''
                have hx := below_call (unhide HB1) (below_regrown W1 dq osq)
                go_wp2_with fail
                go_ret
                exact ⟨by rw [unhide HO]; rfl, hx⟩
              · rw [hpr] at hq
                have HM : Hid (smallB s2 s3 s4 = true) := hide (by unfold smallB; rw [hr, hwi]; rfl)
                have HI := hide hid
                have HPR := hide hpr
                refine wp_region_quiet_below (by kernel_rfl) (by kernel_rfl) ?_
                repeat (go_big_quiet_step (first | (with_reducible exact Calls.regrown_of (unhide cI _)) | (with_reducible exact Calls.regrown_of (unhide cR _)) | (with_reducible exact Calls.regrown_of (unhide cW _)) | (with_reducible exact Calls.regrown_of (unhide cP _))))
                refine wpQuiet_nil ?_
                intro _ hw'
                obtain ⟨⟨dq, osq⟩, hw''⟩ := hw'
                subst hw''
                have hx := below_regrown W1 dq osq
                have hb2 := below_call (unhide HB1) hx
                have hn2 := (unhide HN1).kept (vlt (unhide HN1)) hx
                generalize grow (redrawn W1 dq) osq = W2 at hb2 hn2 hx ⊢
                have HB2 := hide hb2
                have HN2 := hide hn2
                clear hx hb2 hn2 r0 r1 r2 q0 hq cI cR cW cP hid hpr hwi hr HB1 HN1
                go_wp2_with fail
                go_loopw [5] (fun i wr => ∃ m : Nat, m ≤ 0 ∧ i = .int .i64 m ∧ Hid (freeTo L (stA L (0)) m) ∧ Hid (Below w.heap.size w wr) ∧ Hid (VecAt wr vb s2 s3 s4)) (fun i _ => (0) - (intOf i).toNat)
                case atStart => exact ⟨0, by omega, rfl, hide (fun j hj => absurd hj (Nat.not_lt_zero _)), HB2, HN2⟩
                case round =>
                  obtain ⟨m, hm, rfl, HE, HB3, HN3⟩ := hrel
                  by_cases hmk : m < 0
                  · omega
                  · have hmk' : m = 0 := by omega
                    subst hmk'
                    have HF2 := hide (ok_step (unhide HF) (okAt_yes (unhide HT) (unhide HI) (unhide HU) (unhide HM) (unhide HPR) (taken_no (unhide HE))))
                    go_wp2_with fail
                    go_roundw
                    case rel => exact ⟨0 + 1, by omega, by go_num, HF2, HB3⟩
                    case measure => simp [intOf]; omega
      · obtain ⟨j, hkj⟩ : ∃ j, k = j + 1 := ⟨k - 1, by omega⟩
        have HK : Hid (k - 1 = j) := hide (by omega)
        have HKJ := hide hkj
        have hjk : j < k := by omega
        clear hkj
        obtain ⟨⟨p1, p2, p3, p4⟩, hp⟩ : ∃ s, stA L j = s := ⟨_, rfl⟩
        have HP := hide hp
        clear hp
        go_wp2_with fail
        clear c0 c1 c2 c3
        have hb1 := unhide B1
        have hn1 := unhide N1
        generalize hwe : wr.alloc (.cells #[.int .i64 s2, .int .i64 s3, .int .i64 s4] 54) = W1 at hb1 hn1 ⊢
        generalize hwb : wr.heap.size = vb at hn1 ⊢
        have HB1 := hide hb1
        have HN1 := hide hn1
        clear hwe hwb hb1 hn1 B1 N1 HB
        obtain ⟨v0, v1, v2⟩ := unhide HN1
        have r0 := cell_regrown v0
        have r1 := cell_regrown v1
        have r2 := cell_regrown v2
        clear v0 v1 v2
        have hst := ((unhide HC) (k) hkn).kept hb (unhide HB1)
        rw [unhide HT] at hst
        have q0 := cell_regrown hst.1
        clear hst
        have hst := ((unhide HC) j (by omega)).kept hb (unhide HB1)
        rw [unhide HP] at hst
        have q1 := cell_regrown hst.1
        clear hst
        have hj1 : (k : Int) - 1 = (j : Int) := by have := unhide HKJ; omega
        have hj2 : (0 : Int) < (k : Int) := by omega
        have hj3 : (j : Int) < (n : Int) := by omega
        have cI : Hid (∀ W : World, Calls Tryz.prog 36 #[.int .i64 s1, .int .i64 1, .int .i64 9999] W fun e w' => e = .returned (.bool (idB s1)) ∧ Below W.heap.size W w') := hide (fun W => (l02Is_any s1 1 9999 W).mono fun e w' h => ⟨h.1, by rw [h.2]; exact Below.refl _ _⟩)
        have cR := hide (fun W => specRight_any s2 s3 s4 W)
        have cW := hide (fun W => l02Within_any 10 s2 s3 s4 W (by omega) (by omega))
        cases hid : idB s1
        · have HO : Hid (skyB L = false) := hide (sky_no (k := k) (by rw [unhide HL]; exact hkn) (okAt_no1 (unhide HT) hid))
          rw [hid] at cI
          refine wp_region_quiet_below (by kernel_rfl) (by kernel_rfl) ?_
          repeat (go_big_quiet_step (first | (with_reducible exact Calls.regrown_of (unhide cI _))))
          refine wpQuiet_nil ?_
          intro _ hw'
          obtain ⟨⟨dq, osq⟩, hw''⟩ := hw'
          subst hw''
          have hx := below_call (unhide HB1) (below_regrown W1 dq osq)
          go_wp2_with fail
          go_ret
          exact ⟨by rw [unhide HO]; rfl, hx⟩
        · rw [hid] at cI
          by_cases hup : s1 ≤ p1
          · have HO : Hid (skyB L = false) := hide (sky_no (k := k) (by rw [unhide HL]; exact hkn) (okAt_no2 (by unfold upB; rw [unhide HK, unhide HT]; simp [unhide HP]; omega)))
            refine wp_region_quiet_below (by kernel_rfl) (by kernel_rfl) ?_
            repeat (go_big_quiet_step (first | (with_reducible exact Calls.regrown_of (unhide cI _))))
            refine wpQuiet_nil ?_
            intro _ hw'
            obtain ⟨⟨dq, osq⟩, hw''⟩ := hw'
            subst hw''
            have hx := below_call (unhide HB1) (below_regrown W1 dq osq)
            go_wp2_with fail
            go_ret
            exact ⟨by rw [unhide HO]; rfl, hx⟩
          have HU : Hid (upB L k = true) := hide (by unfold upB; rw [unhide HK, unhide HT]; simp [unhide HP]; omega)
          have hup2 : decide (s1 ≤ p1) = false := by simp; omega
          clear hup
          cases hr : rightB s2 s3 s4
          · have HO : Hid (skyB L = false) := hide (sky_no (k := k) (by rw [unhide HL]; exact hkn) (okAt_no3 (unhide HT) (by unfold smallB; rw [hr]; rfl)))
            rw [hr] at cR
            refine wp_region_quiet_below (by kernel_rfl) (by kernel_rfl) ?_
            repeat (go_big_quiet_step (first | (with_reducible exact Calls.regrown_of (unhide cI _)) | (with_reducible exact Calls.regrown_of (unhide cR _))))
            refine wpQuiet_nil ?_
            intro _ hw'
            obtain ⟨⟨dq, osq⟩, hw''⟩ := hw'
            subst hw''
            have hx := below_call (unhide HB1) (below_regrown W1 dq osq)
            go_wp2_with fail
            go_ret
            exact ⟨by rw [unhide HO]; rfl, hx⟩
          · rw [hr] at cR
            have cP := hide (fun W => l02Prime_any s2 s3 s4 W hr)
            cases hwi : withinB 10 s2 s3 s4
            · have HO : Hid (skyB L = false) := hide (sky_no (k := k) (by rw [unhide HL]; exact hkn) (okAt_no3 (unhide HT) (by unfold smallB; rw [hwi]; simp)))
              rw [hwi] at cW
              refine wp_region_quiet_below (by kernel_rfl) (by kernel_rfl) ?_
              repeat (go_big_quiet_step (first | (with_reducible exact Calls.regrown_of (unhide cI _)) | (with_reducible exact Calls.regrown_of (unhide cR _)) | (with_reducible exact Calls.regrown_of (unhide cW _))))
              refine wpQuiet_nil ?_
              intro _ hw'
              obtain ⟨⟨dq, osq⟩, hw''⟩ := hw'
              subst hw''
              have hx := below_call (unhide HB1) (below_regrown W1 dq osq)
              go_wp2_with fail
              go_ret
              exact ⟨by rw [unhide HO]; rfl, hx⟩
            · rw [hwi] at cW
              have hq := fun W => neq_vec (wrap64 (s2.tdiv (gI s2 s3 s4))) (wrap64 (s3.tdiv (gI s2 s3 s4))) (wrap64 (s4.tdiv (gI s2 s3 s4))) s2 s3 s4 W
              have hq2 : eqB (wrap64 (s2.tdiv (gI s2 s3 s4))) (wrap64 (s3.tdiv (gI s2 s3 s4))) (wrap64 (s4.tdiv (gI s2 s3 s4))) s2 s3 s4 = primeB s2 s3 s4 := by rw [eqB_comm]; unfold primeB prI; rw [hr]; rfl
              rw [hq2] at hq
              clear hq2
              generalize wrap64 (s2.tdiv (gI s2 s3 s4)) = t2 at cP hq
              generalize wrap64 (s3.tdiv (gI s2 s3 s4)) = t3 at cP hq
              generalize wrap64 (s4.tdiv (gI s2 s3 s4)) = t4 at cP hq
              cases hpr : primeB s2 s3 s4
              · have HO : Hid (skyB L = false) := hide (sky_no (k := k) (by rw [unhide HL]; exact hkn) (okAt_no4 (unhide HT) hpr))
                rw [hpr] at hq
                refine wp_region_quiet_below (by kernel_rfl) (by kernel_rfl) ?_
                repeat (go_big_quiet_step (first | (with_reducible exact Calls.regrown_of (unhide cI _)) | (with_reducible exact Calls.regrown_of (unhide cR _)) | (with_reducible exact Calls.regrown_of (unhide cW _)) | (with_reducible exact Calls.regrown_of (unhide cP _))))
                refine wpQuiet_nil ?_
                intro _ hw'
                obtain ⟨⟨dq, osq⟩, hw''⟩ := hw'
                subst hw''
                have hx := below_call (unhide HB1) (below_regrown W1 dq osq)
                go_wp2_with fail
                go_ret
                exact ⟨by rw [unhide HO]; rfl, hx⟩
              · rw [hpr] at hq
                have HM : Hid (smallB s2 s3 s4 = true) := hide (by unfold smallB; rw [hr, hwi]; rfl)
                have HI := hide hid
                have HPR := hide hpr
                refine wp_region_quiet_below (by kernel_rfl) (by kernel_rfl) ?_
                repeat (go_big_quiet_step (first | (with_reducible exact Calls.regrown_of (unhide cI _)) | (with_reducible exact Calls.regrown_of (unhide cR _)) | (with_reducible exact Calls.regrown_of (unhide cW _)) | (with_reducible exact Calls.regrown_of (unhide cP _))))
                refine wpQuiet_nil ?_
                intro _ hw'
                obtain ⟨⟨dq, osq⟩, hw''⟩ := hw'
                subst hw''
                have hx := below_regrown W1 dq osq
                have hb2 := below_call (unhide HB1) hx
                have hn2 := (unhide HN1).kept (vlt (unhide HN1)) hx
                generalize grow (redrawn W1 dq) osq = W2 at hb2 hn2 hx ⊢
                have HB2 := hide hb2
                have HN2 := hide hn2
                clear hx hb2 hn2 r0 r1 r2 q0 hq cI cR cW cP hid hpr hwi hr HB1 HN1 q1 hup2
                go_wp2_with fail
                go_loopw [5] (fun i wr => ∃ m : Nat, m ≤ k ∧ i = .int .i64 m ∧ Hid (freeTo L (stA L (k)) m) ∧ Hid (Below w.heap.size w wr) ∧ Hid (VecAt wr vb s2 s3 s4)) (fun i _ => (k) - (intOf i).toNat)
                case atStart => exact ⟨0, by omega, rfl, hide (fun j hj => absurd hj (Nat.not_lt_zero _)), HB2, HN2⟩
                case round =>
                  obtain ⟨m, hm, rfl, HE, HB3, HN3⟩ := hrel
                  by_cases hmk : m < k
                  · obtain ⟨⟨t1, t2, t3, t4⟩, ht⟩ : ∃ s, stA L m = s := ⟨_, rfl⟩
                    have hst := ((unhide HC) m (by omega)).kept hb (unhide HB3)
                    rw [ht] at hst
                    have hmn : (m : Int) < (n : Int) := by omega
                    have hmj : (m : Int) < (k : Int) := by omega
                    obtain ⟨_, g1, g2, g3⟩ := hst
                    have k1 := cell_regrown g1
                    have k2 := cell_regrown g2
                    have k3 := cell_regrown g3
                    clear g1 g2 g3
                    obtain ⟨v0, v1, v2⟩ := unhide HN3
                    have r0 := cell_regrown v0
                    have r1 := cell_regrown v1
                    have r2 := cell_regrown v2
                    clear v0 v1 v2
                    have HQ : Hid (sameS (stA L k) (stA L m) = (eqB (crW t3 t4 s3 s4) (crW t4 t2 s4 s2) (crW t2 t3 s2 s3) 0 0 0 && decide (0 < dotW t2 t3 t4 s2 s3 s4))) := hide (by
                      have hsm := ok_small ((unhide HF) m (by omega))
                      rw [ht] at hsm
                      have e := same_eq hsm (unhide HM)
                      rw [sameB_comm hsm (unhide HM)] at e
                      rw [ht, unhide HT]
                      exact e.symm)
                    have cE := hide (fun W => l02Same_any t2 t3 t4 s2 s3 s4 W)
                    generalize (eqB (crW t3 t4 s3 s4) (crW t4 t2 s4 s2) (crW t2 t3 s2 s3) 0 0 0 && decide (0 < dotW t2 t3 t4 s2 s3 s4)) = y at HQ cE
                    clear ht
                    go_wp2_with fail
                    refine wp_region_quiet_below (by kernel_rfl) (by kernel_rfl) ?_
                    repeat (go_big_quiet_step (first | (with_reducible exact Calls.regrown_of (unhide cE _))))
                    refine wpQuiet_nil ?_
                    intro _ hw'
                    obtain ⟨⟨dq, osq⟩, hw''⟩ := hw'
                    subst hw''
                    have hx := below_regrown wr dq osq
                    have hb4 := below_call (unhide HB3) hx
                    have hn4 := (unhide HN3).kept (vlt (unhide HN3)) hx
                    generalize grow (redrawn wr dq) osq = W4 at hx hb4 hn4 ⊢
                    have HB4 := hide hb4
                    have HN4 := hide hn4
                    clear hx hb4 hn4 r0 r1 r2 k1 k2 k3 cE HB3 HN3
                    cases y
                    · go_wp2_with fail
                      go_roundw
                      case rel => exact ⟨m + 1, by omega, by go_num, hide (free_step (unhide HE) (unhide HQ)), HB4, HN4⟩
                      case measure => simp [intOf]; omega
                    · have HO : Hid (skyB L = false) := hide (sky_no (k := k) (by rw [unhide HL]; exact hkn) (okAt_no5 (taken_yes hmk (unhide HQ))))
                      go_wp2_with fail
                      go_ret
                      exact ⟨by rw [unhide HO]; rfl, unhide HB4⟩
                  · have hmk' : m = k := by omega
                    subst hmk'
                    have HF2 := hide (ok_step (unhide HF) (okAt_yes (unhide HT) (unhide HI) (unhide HU) (unhide HM) (unhide HPR) (taken_no (unhide HE))))
                    go_wp2_with fail
                    go_roundw
                    case rel => exact ⟨m + 1, by omega, by go_num, HF2, HB3⟩
                    case measure => simp [intOf]; omega
    · have hkn' : k = n := by omega
      subst hkn'
      have HO := hide (sky_yes (L := L) (by rw [unhide HL]; omega) (by rw [unhide HL]; exact unhide HF))
      go_wp2_with fail
      go_ret
      exact ⟨by rw [unhide HO]; rfl, unhide HB⟩
end Go.Proofs.YtjdehbpgdplolaaGreatDoor

namespace Go.Proofs.YtjdehbpgdplolaaGreatDoor
open Go.RowKit Go.Sort
set_option linter.unusedVariables false

def FreeS (w : World) (b o : Nat) : Prop := w.frozen? ⟨b, o, none⟩ = false ∧ w.frozen? ⟨b, o + 1, none⟩ = false ∧ w.frozen? ⟨b, o + 2, none⟩ = false ∧ w.frozen? ⟨b, o + 3, none⟩ = false
theorem FreeS.kept {w w' : World} {b o : Nat} (h : FreeS w b o) (hb : b < w.heap.size) (hB : Below w.heap.size w w') : FreeS w' b o := by
  obtain ⟨h0, h1, h2, h3⟩ := h
  exact ⟨by rw [hB.frozen (p := ⟨b, o, none⟩) hb]; exact h0, by rw [hB.frozen (p := ⟨b, o + 1, none⟩) hb]; exact h1, by rw [hB.frozen (p := ⟨b, o + 2, none⟩) hb]; exact h2, by rw [hB.frozen (p := ⟨b, o + 3, none⟩) hb]; exact h3⟩
theorem freeS_new (w : World) (s : St) (t : TypeId) : FreeS (w.alloc (.cells #[.int .i64 s.1, .int .i64 s.2.1, .int .i64 s.2.2.1, .int .i64 s.2.2.2] t)) w.heap.size 0 := by
  refine ⟨?_, ?_, ?_, ?_⟩ <;> simp

set_option maxRecDepth 100000 in
theorem szStarS_any (a : Option Addr) (n c : Nat) (w : World) (hn : n ≤ 1048576) :
    Calls Tryz.prog 17 #[.slice a n c, .int .i64 1048576] w fun e w' => e = .returned (.int .i64 (1048576 - (n : Int))) ∧ w' = w := by
  have h : ¬ (1048576 : Int) - (n : Int) < 0 := by omega
  go_enter Tryz.func17, Tryz.ntmps17
  go_wp2
  go_ret
  exact ⟨rfl, rfl⟩
set_option maxRecDepth 100000 in
theorem szStarS_big (a : Option Addr) (n c : Nat) (w : World) (hn : 1048576 < n) (hm : n ≤ 9223372036854775807) :
    Calls Tryz.prog 17 #[.slice a n c, .int .i64 1048576] w fun e w' => e = .returned (.int .i64 (-1)) ∧ w' = w := by
  have h : (1048576 : Int) - (n : Int) < 0 := by omega
  go_enter Tryz.func17, Tryz.ntmps17
  go_wp2
  go_ret
  exact ⟨rfl, rfl⟩

set_option maxRecDepth 100000 in
theorem toVec_any (x y z : Int) (w : World) :
    Calls Tryz.prog 24 #[.agg #[.int .i64 x, .int .i64 y, .int .i64 z]] w fun e w' => e = .returned (.agg #[.int .i64 x, .int .i64 y, .int .i64 z]) ∧ Below w.heap.size w w' := by
  go_enter Tryz.func24, Tryz.ntmps24
  go_wp2
  exact bodyPost_ret (v := .agg #[.int .i64 x, .int .i64 y, .int .i64 z]) (by simp [results, Tryz.results24, go_sem]) rfl ⟨rfl, below3 _ _ _ _⟩
set_option maxRecDepth 100000 in
theorem toStar_any (i x y z : Int) (w : World) :
    Calls Tryz.prog 47 #[.agg #[.int .i64 i, .int .i64 x, .int .i64 y, .int .i64 z]] w fun e w' => e = .returned (.agg #[.int .i64 i, .int .i64 x, .int .i64 y, .int .i64 z]) ∧ Below w.heap.size w w' := by
  go_enter Tryz.func47, Tryz.ntmps47
  go_wp2_with fail
  refine (toVec_any x y z _).mono ?_
  rintro e w1 ⟨rfl, hx⟩
  have hB : Below w.heap.size w w1 := below_call (below3 _ _ _ _) hx
  have sa : StarAt w1 (w.heap.size + 1 + 1) 0 (i, 0, 0, 0) := (by simpa using starAt_new ((w.alloc _).alloc _) (i, 0, 0, 0) _ : StarAt _ (w.heap.size + 1 + 1) 0 (i, 0, 0, 0)).kept (by simp) hx
  have fa : FreeS w1 (w.heap.size + 1 + 1) 0 := (by simpa using freeS_new ((w.alloc _).alloc _) (i, 0, 0, 0) _ : FreeS _ (w.heap.size + 1 + 1) 0).kept (by simp) hx
  have sr : StarAt w1 (w.heap.size + 1) 0 (0, 0, 0, 0) := ((by simpa using starAt_new (w.alloc _) (0, 0, 0, 0) _ : StarAt _ (w.heap.size + 1) 0 (0, 0, 0, 0)).kept (by simp) (below1 _ _)).kept (by simp) hx
  have fr : FreeS w1 (w.heap.size + 1) 0 := ((by simpa using freeS_new (w.alloc _) (0, 0, 0, 0) _ : FreeS _ (w.heap.size + 1) 0).kept (by simp) (below1 _ _)).kept (by simp) hx
  clear hx
  obtain ⟨c0, c1, c2, c3⟩ := sa
  obtain ⟨f0, f1, f2, f3⟩ := fa
  obtain ⟨d0, d1, d2, d3⟩ := sr
  obtain ⟨g0, g1, g2, g3⟩ := fr
  simp only [Nat.zero_add] at c0 c1 c2 c3 f0 f1 f2 f3 d0 d1 d2 d3 g0 g1 g2 g3
  go_wp2_with fail
  exact bodyPost_ret (v := .agg #[.int .i64 i, .int .i64 x, .int .i64 y, .int .i64 z]) (by simp [results, Tryz.results47, go_sem, d0, d1, d2, d3]) rfl ⟨rfl, by
    repeat (refine Below.setCell ?_ (by simp; try omega) _)
    exact hB⟩
end Go.Proofs.YtjdehbpgdplolaaGreatDoor

namespace Go.Proofs.YtjdehbpgdplolaaGreatDoor
open Go.RowKit Go.Sort
set_option linter.unusedVariables false

/-- block b is a row of n stars, none frozen, of which the first k are L's -/
def OwnS (w : World) (b n : Nat) (L : List St) (k : Nat) : Prop := ∃ cur : Array Value, w.heap[b]? = some (.cells cur 85 (0, 0)) ∧ cur.size = n * 4 ∧
  ∀ j, j < k → cur[j * 4]? = some (.int .i64 (stA L j).1) ∧ cur[j * 4 + 1]? = some (.int .i64 (stA L j).2.1) ∧ cur[j * 4 + 2]? = some (.int .i64 (stA L j).2.2.1) ∧ cur[j * 4 + 3]? = some (.int .i64 (stA L j).2.2.2)
theorem OwnS.lt {w : World} {b n k : Nat} {L : List St} (h : OwnS w b n L k) : b < w.heap.size := by
  obtain ⟨cur, hc, _⟩ := h
  exact (Array.getElem?_eq_some_iff.1 hc).1
theorem OwnS.kept {w w' : World} {b n k : Nat} {L : List St} (h : OwnS w b n L k) (hB : Below w.heap.size w w') : OwnS w' b n L k := by
  have hl := h.lt
  obtain ⟨cur, hc, r⟩ := h
  exact ⟨cur, by rw [hB.block b hl]; exact hc, r⟩
theorem OwnS.stars {w : World} {b n k : Nat} {L : List St} (h : OwnS w b n L k) : Stars w (some ⟨b, 0, none⟩) L k := by
  have hl := h.lt
  obtain ⟨cur, hc, _, hs⟩ := h
  refine .inr ⟨b, 0, rfl, hl, fun i hi => ?_⟩
  obtain ⟨h0, h1, h2, h3⟩ := hs i hi
  rw [Nat.zero_add]
  exact ⟨by rw [cell_of_row w b _ cur _ _ hc]; exact h0, by rw [cell_of_row w b _ cur _ _ hc]; exact h1, by rw [cell_of_row w b _ cur _ _ hc]; exact h2, by rw [cell_of_row w b _ cur _ _ hc]; exact h3⟩
theorem OwnS.old {w : World} {b n k i : Nat} {L : List St} (h : OwnS w b n L k) (hi : i < n * 4) : ∃ v, w.cell? ⟨b, i, none⟩ = some v := by
  obtain ⟨cur, hc, hn, _⟩ := h
  rw [cell_of_row w b _ cur _ _ hc]
  exact ⟨cur[i], Array.getElem?_eq_getElem (by omega)⟩
theorem OwnS.free {w : World} {b n k : Nat} {L : List St} (h : OwnS w b n L k) (i : Nat) : w.frozen? ⟨b, i, none⟩ = false := by
  obtain ⟨cur, hc, _⟩ := h
  exact frozen_of_row w b i cur _ hc
def set4 (w : World) (b o : Nat) (s : St) : World := (((w.setCell ⟨b, o, none⟩ (.int .i64 s.1)).setCell ⟨b, o + 1, none⟩ (.int .i64 s.2.1)).setCell ⟨b, o + 2, none⟩ (.int .i64 s.2.2.1)).setCell ⟨b, o + 3, none⟩ (.int .i64 s.2.2.2)
theorem OwnS.step {w : World} {b n k : Nat} {L : List St} (h : OwnS w b n L k) (hk : k < n) : OwnS (set4 w b (k * 4) (stA L k)) b n L (k + 1) := by
  obtain ⟨cur, hc, hn, hs⟩ := h
  have e1 := heap_setCell_same w b (k * 4) cur _ (.int .i64 (stA L k).1) hc
  have e2 := heap_setCell_same _ b (k * 4 + 1) _ _ (.int .i64 (stA L k).2.1) e1
  have e3 := heap_setCell_same _ b (k * 4 + 2) _ _ (.int .i64 (stA L k).2.2.1) e2
  have e4 := heap_setCell_same _ b (k * 4 + 3) _ _ (.int .i64 (stA L k).2.2.2) e3
  refine ⟨_, e4, by simpa using hn, fun j hj => ?_⟩
  by_cases e : j = k
  · subst e
    refine ⟨?_, ?_, ?_, ?_⟩ <;> simp [Array.getElem?_setIfInBounds] <;> omega
  · obtain ⟨h0, h1, h2, h3⟩ := hs j (by omega)
    refine ⟨?_, ?_, ?_, ?_⟩
    · simp only [Array.getElem?_setIfInBounds]
      rw [if_neg (by omega), if_neg (by omega), if_neg (by omega), if_neg (by omega)]; exact h0
    · simp only [Array.getElem?_setIfInBounds]
      rw [if_neg (by omega), if_neg (by omega), if_neg (by omega), if_neg (by omega)]; exact h1
    · simp only [Array.getElem?_setIfInBounds]
      rw [if_neg (by omega), if_neg (by omega), if_neg (by omega), if_neg (by omega)]; exact h2
    · simp only [Array.getElem?_setIfInBounds]
      rw [if_neg (by omega), if_neg (by omega), if_neg (by omega), if_neg (by omega)]; exact h3
theorem belowSet4 {B : Nat} {w w1 : World} {b o : Nat} {s : St} (h : Below B w w1) (hb : B ≤ b) : Below B w (set4 w1 b o s) := (((h.setCell hb _).setCell hb _).setCell hb _).setCell hb _

theorem info_star : (Tryz.prog.info? 85).map (fun i => (i.zero, i.size, i.bytes)) = some (some (.agg #[.int .i64 0, .int .i64 0, .int .i64 0, .int .i64 0]), 4, 32) := by kernel_rfl
theorem own_made {w w' : World} {B b n : Nat} {L : List St} {xs : List Value} (h : w'.ownsRow B 85 4 (.slice (some ⟨b, 0, none⟩) n n) n xs) : OwnS w' b n L 0 := by
  rcases h.2 with ⟨h', _⟩ | ⟨g, cap, cur, hv, _, hg, _, _, hcs, _⟩
  · simp at h'
  · simp only [Value.slice.injEq, Option.some.injEq, Addr.mk.injEq, and_true, true_and] at hv
    obtain ⟨rfl, rfl⟩ := hv
    exact ⟨cur, hg, hcs, fun j hj => absurd hj (Nat.not_lt_zero _)⟩

theorem below_grownNone' {w w' : World} (h : w.grownBy w' none) : Below w.heap.size w w' := ⟨h.os, h.tape, h.output, h.size, fun k hk => h.block k hk (by simp)⟩

set_option maxHeartbeats 1000000 in
set_option maxRecDepth 100000 in
theorem toStarS_any (L : List St) (a : Option Addr) (c : Nat) (w : World) (hn : L.length ≤ 1048576) (hS : Stars w a L L.length) :
    Calls Tryz.prog 22 #[.slice a L.length c] w fun e w' => e = .returned (.slice (some ⟨w.heap.size, 0, none⟩) L.length L.length) ∧ OwnS w' w.heap.size L.length L L.length ∧ Below w.heap.size w w' := by
  obtain ⟨n, hnl⟩ : ∃ n, L.length = n := ⟨_, rfl⟩
  rw [hnl] at hn hS ⊢
  clear hnl
  have HS := hide hS
  clear hS
  obtain ⟨i0, hi, hz0, hz1, hz2⟩ := info_parts info_star
  go_enter Tryz.func22, Tryz.ntmps22
  go_wp2_with (at_make; refine wpList_make_full _ rfl _ _ 30 rfl w.heap.size 85 i0 (.agg #[.int .i64 0, .int .i64 0, .int .i64 0, .int .i64 0]) 4 Tryz.underlying30 hi hz0 hz1 .i64 .i64 _ _ n rfl rfl rfl rfl (by rw [hz2]; omega) (by unfold maxLen; omega) (Nat.le_refl _) ?_; intro w0 hown0 hgrow0)
  have H0 := hide (own_made (w := w) (L := L) hown0)
  have HB0 := hide (below_grownNone' hgrow0)
  clear hown0 hgrow0
  rcases unhide HS with rfl | ⟨b, o, rfl, hb, hc⟩
  · refine wp_loop_rounds 1 ?_
    rw [rounds_succ]
    go_wp2_with fail
    go_ret
    exact ⟨rfl, unhide H0, unhide HB0⟩
  have HC := hide hc
  clear hc
  go_loopw [4] (fun i wr => ∃ k : Nat, k ≤ n ∧ i = .int .i64 k ∧ Hid (OwnS wr w.heap.size n L k) ∧ Hid (Below w.heap.size w wr)) (fun i _ => n - (intOf i).toNat)
  case atStart => exact ⟨0, by omega, rfl, H0, HB0⟩
  case round =>
    obtain ⟨k, hk, rfl, HO, HB⟩ := hrel
    by_cases hkn : k < n
    · obtain ⟨⟨s1, s2, s3, s4⟩, hs⟩ : ∃ s, stA L k = s := ⟨_, rfl⟩
      have hst := ((unhide HC) k hkn).kept hb (unhide HB)
      rw [hs] at hst
      obtain ⟨c0, c1, c2, c3⟩ := hst
      have HT := hide hs
      clear hs
      go_wp2_with fail
      refine (toStar_any s1 s2 s3 s4 _).mono ?_
      rintro e w2 ⟨rfl, hx⟩
      clear c0 c1 c2 c3
      have O2 := hide ((unhide HO).kept hx)
      have B2 := hide (below_call (unhide HB) hx)
      clear hx
      obtain ⟨x0, e0⟩ := (unhide O2).old (i := k * 4) (by omega)
      obtain ⟨x1, e1⟩ := (unhide O2).old (i := k * 4 + 1) (by omega)
      obtain ⟨x2, e2⟩ := (unhide O2).old (i := k * 4 + 2) (by omega)
      obtain ⟨x3, e3⟩ := (unhide O2).old (i := k * 4 + 3) (by omega)
      have f0 := (unhide O2).free (k * 4)
      have f1 := (unhide O2).free (k * 4 + 1)
      have f2 := (unhide O2).free (k * 4 + 2)
      have f3 := (unhide O2).free (k * 4 + 3)
      have O3 := (unhide O2).step hkn
      rw [unhide HT] at O3
      have HO3 := hide O3
      have HB3 := hide (belowSet4 (o := k * 4) (s := (s1, s2, s3, s4)) (unhide B2) (Nat.le_refl _))
      clear O3
      go_wp2_with fail
      go_roundw
      case rel => exact ⟨k + 1, by omega, by go_num, HO3, HB3⟩
      case measure => simp [intOf]; omega
    · have hkn' : k = n := by omega
      subst hkn'
      go_wp2_with fail
      go_ret
      exact ⟨rfl, unhide HO, unhide HB⟩

set_option maxRecDepth 100000 in
theorem eqVec_same (x y z : Int) (w : World) :
    Calls Tryz.prog 32 #[.agg #[.int .i64 x, .int .i64 y, .int .i64 z], .agg #[.int .i64 x, .int .i64 y, .int .i64 z]] w fun e w' => e = .returned (.bool true) ∧ Below w.heap.size w w' := by
  go_enter Tryz.func32, Tryz.ntmps32
  go_wp2
  go_ret
  exact ⟨rfl, below2 _ _ _⟩
set_option maxRecDepth 100000 in
theorem eqStar_same (i x y z : Int) (w : World) :
    Calls Tryz.prog 56 #[.agg #[.int .i64 i, .int .i64 x, .int .i64 y, .int .i64 z], .agg #[.int .i64 i, .int .i64 x, .int .i64 y, .int .i64 z]] w fun e w' => e = .returned (.bool true) ∧ Below w.heap.size w w' := by
  go_enter Tryz.func56, Tryz.ntmps56
  go_wp2_with fail
  refine (eqVec_same x y z _).mono ?_
  rintro e w1 ⟨rfl, hx⟩
  go_wp2_with fail
  go_ret
  exact ⟨rfl, below_call (below2 _ _ _) hx⟩
set_option maxHeartbeats 1000000 in
set_option maxRecDepth 100000 in
theorem eqStarS_same (L : List St) (n : Nat) (a a' : Option Addr) (c c' : Nat) (w : World) (hn : n ≤ 1048576) (hS : Stars w a L n) (hS' : Stars w a' L n) :
    Calls Tryz.prog 30 #[.slice a n c, .slice a' n c'] w fun e w' => e = .returned (.bool true) ∧ Below w.heap.size w w' := by
  rcases hS with rfl | ⟨b, o, rfl, hb, hc⟩
  · clear hS'
    go_enter Tryz.func30, Tryz.ntmps30
    go_wp2_with fail
    refine wp_loop_rounds 1 ?_
    rw [rounds_succ]
    go_wp2_with fail
    go_ret
    exact ⟨rfl, Below.refl _ _⟩
  rcases hS' with rfl | ⟨b', o', rfl, hb', hc'⟩
  · clear hc
    go_enter Tryz.func30, Tryz.ntmps30
    go_wp2_with fail
    refine wp_loop_rounds 1 ?_
    rw [rounds_succ]
    go_wp2_with fail
    go_ret
    exact ⟨rfl, Below.refl _ _⟩
  have HC := hide hc
  have HC' := hide hc'
  clear hc hc'
  go_enter Tryz.func30, Tryz.ntmps30
  go_wp2_with fail
  go_loopw [5] (fun i wr => ∃ k : Nat, k ≤ n ∧ i = .int .i64 k ∧ Hid (Below w.heap.size w wr)) (fun i _ => n - (intOf i).toNat)
  case atStart => exact ⟨0, by omega, rfl, hide (Below.refl _ _)⟩
  case round =>
    obtain ⟨k, hk, rfl, HB⟩ := hrel
    by_cases hkn : k < n
    · obtain ⟨⟨s1, s2, s3, s4⟩, hs⟩ : ∃ s, stA L k = s := ⟨_, rfl⟩
      have hst := ((unhide HC) k hkn).kept hb (unhide HB)
      have hst' := ((unhide HC') k hkn).kept hb' (unhide HB)
      rw [hs] at hst hst'
      obtain ⟨c0, c1, c2, c3⟩ := hst
      obtain ⟨d0, d1, d2, d3⟩ := hst'
      have r0 := cell_regrown c0
      have r1 := cell_regrown c1
      have r2 := cell_regrown c2
      have r3 := cell_regrown c3
      have t0 := cell_regrown d0
      have t1 := cell_regrown d1
      have t2 := cell_regrown d2
      have t3 := cell_regrown d3
      clear c0 c1 c2 c3 d0 d1 d2 d3 hs
      have hkn2 : (k : Int) < (n : Int) := by omega
      have cE := hide (fun W => eqStar_same s1 s2 s3 s4 W)
      go_wp2_with fail
      refine wp_region_quiet_below (by kernel_rfl) (by kernel_rfl) ?_
      repeat (go_big_quiet_step (first | (with_reducible exact Calls.regrown_of (unhide cE _))))
      refine wpQuiet_nil ?_
      intro _ hw'
      obtain ⟨⟨dq, osq⟩, hw''⟩ := hw'
      subst hw''
      have hx := below_call (unhide HB) (below_regrown wr dq osq)
      generalize grow (redrawn wr dq) osq = W2 at hx ⊢
      have HB2 := hide hx
      clear hx r0 r1 r2 r3 t0 t1 t2 t3 cE HB
      go_wp2_with fail
      go_roundw
      case rel => exact ⟨k + 1, by omega, by go_num, HB2⟩
      case measure => simp [intOf]; omega
    · have hkn' : k = n := by omega
      subst hkn'
      go_wp2_with fail
      go_ret
      exact ⟨rfl, unhide HB⟩
end Go.Proofs.YtjdehbpgdplolaaGreatDoor

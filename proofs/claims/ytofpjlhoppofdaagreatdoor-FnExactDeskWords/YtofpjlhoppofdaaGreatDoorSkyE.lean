/- Whether a list of stars is right: the specification's. -/
import Derived.Test.YtofpjlhoppofdaaGreatDoorSkyD
namespace Go.Proofs.YtofpjlhoppofdaaGreatDoor
open Go.RowKit Go.Sort
set_option linter.unusedVariables false

theorem eqB_comm (a1 a2 a3 b1 b2 b3 : Int) : eqB a1 a2 a3 b1 b2 b3 = eqI b1 b2 b3 a1 a2 a3 := by
  unfold eqB eqI
  congr 1
  apply propext
  constructor <;> rintro ⟨h1, h2, h3⟩ <;> exact ⟨h1.symm, h2.symm, h3.symm⟩
theorem okAt_no1 {L : List St} {i : Nat} {s1 s2 s3 s4 : Int} (hs : stA L i = (s1, s2, s3, s4)) (h : idB s1 = false) : okAt L i = false := by unfold okAt; rw [hs]; simp [h]
theorem okAt_no2 {L : List St} {i : Nat} (h : upB L i = false) : okAt L i = false := by unfold okAt; simp [h]
theorem okAt_no3 {L : List St} {i : Nat} {s1 s2 s3 s4 : Int} (hs : stA L i = (s1, s2, s3, s4)) (h : smallB s2 s3 s4 = false) : okAt L i = false := by unfold okAt; rw [hs]; simp [h]
theorem okAt_no4 {L : List St} {i : Nat} {s1 s2 s3 s4 : Int} (hs : stA L i = (s1, s2, s3, s4)) (h : primeB s2 s3 s4 = false) : okAt L i = false := by unfold okAt; rw [hs]; simp [h]
theorem okAt_no5 {L : List St} {i : Nat} (h : takenB L (stA L i) i = true) : okAt L i = false := by unfold okAt; simp [h]
theorem okAt_yes {L : List St} {i : Nat} {s1 s2 s3 s4 : Int} (hs : stA L i = (s1, s2, s3, s4)) (h1 : idB s1 = true) (h2 : upB L i = true) (h3 : smallB s2 s3 s4 = true) (h4 : primeB s2 s3 s4 = true) (h5 : takenB L (stA L i) i = false) : okAt L i = true := by
  unfold okAt
  rw [h5, h2, hs]
  simp [h1, h3, h4]

set_option maxHeartbeats 8000000 in
set_option maxRecDepth 100000 in
theorem specSky_any (L : List St) (a : Option Addr) (c : Nat) (w : World) (hn : L.length ≤ 1048576) (hS : Stars w a L L.length) :
    Calls Tryz.prog 35 #[.slice a L.length c] w fun e w' => e = .returned (.bool (skyB L)) ∧ Below w.heap.size w w' := by
  obtain ⟨n, hnl⟩ : ∃ n, L.length = n := ⟨_, rfl⟩
  rw [hnl] at hn hS ⊢
  have HL := hide hnl
  clear hnl
  by_cases h12 : 12 < n
  · have h12' : (12 : Int) < (n : Int) := by omega
    have HO : Hid (skyB L = false) := hide (sky_long (by rw [unhide HL]; exact h12))
    clear hS
    go_enter Tryz.func35, Tryz.ntmps35
    go_wp2
    go_ret
    exact ⟨by rw [unhide HO]; rfl, Below.refl _ _⟩
  have h12' : ¬ (12 : Int) < (n : Int) := by omega
  rcases hS with rfl | ⟨b, o, rfl, hb, hc⟩
  · have HO : Hid (skyB L = true) := hide (sky_yes (by rw [unhide HL]; omega) (by rw [unhide HL]; intro j hj; omega))
    go_enter Tryz.func35, Tryz.ntmps35
    go_wp2_with fail
    refine wp_loop_rounds 1 ?_
    rw [rounds_succ]
    go_wp2_with fail
    go_ret
    exact ⟨by rw [unhide HO]; rfl, Below.refl _ _⟩
  have HC := hide hc
  clear hc
  go_enter Tryz.func35, Tryz.ntmps35
  go_wp2_with fail
  go_loopw [3] (fun i wr => ∃ k : Nat, k ≤ n ∧ i = .int .i64 k ∧ Hid (okTo L k) ∧ Hid (Below w.heap.size w wr)) (fun i _ => n - (intOf i).toNat)
  case atStart => exact ⟨0, by omega, rfl, hide (fun j hj => absurd hj (Nat.not_lt_zero _)), hide (Below.refl _ _)⟩
  case round =>
    obtain ⟨k, hk, rfl, HF, HB⟩ := hrel
    by_cases hkn : k < n
    · obtain ⟨⟨s1, s2, s3, s4⟩, hs⟩ : ∃ s, stA L k = s := ⟨_, rfl⟩
      have hst := ((unhide HC) k hkn).kept hb (unhide HB)
      rw [hs] at hst
      obtain ⟨c0, c1, c2, c3⟩ := hst
      have HT := hide hs
      clear hs
      have hkn2 : (k : Int) < (n : Int) := by omega
      have B1 := hide ((unhide HB).alloc (unhide HB).size (.cells #[.int .i64 s2, .int .i64 s3, .int .i64 s4] 76))
      have N1 := hide (vecAt_new wr s2 s3 s4 76)
      rcases Nat.eq_zero_or_pos k with hk0 | hk0
      · subst hk0
        go_wp2_with fail
        clear c0 c1 c2 c3
        have hb1 := unhide B1
        have hn1 := unhide N1
        generalize hwe : wr.alloc (.cells #[.int .i64 s2, .int .i64 s3, .int .i64 s4] 76) = W1 at hb1 hn1 ⊢
        generalize hwb : wr.heap.size = vb at hn1 ⊢
        have HB1 := hide hb1
        have HN1 := hide hn1
        clear hwe hwb hb1 hn1 B1 N1 HB
        obtain ⟨v0, v1, v2⟩ := unhide HN1
        have r0 := cell_regrown v0
        have r1 := cell_regrown v1
        have r2 := cell_regrown v2
        clear v0 v1 v2
        have hst := ((unhide HC) (0) hkn).kept hb (unhide HB1)
        rw [unhide HT] at hst
        have hst1 := hst.1
        simp only [Nat.zero_mul, Nat.add_zero] at hst1
        have q0 := cell_regrown hst1
        clear hst hst1
        have cI : Hid (∀ W : World, Calls Tryz.prog 36 #[.int .i64 s1, .int .i64 1, .int .i64 9999] W fun e w' => e = .returned (.bool (idB s1)) ∧ Below W.heap.size W w') := hide (fun W => (l02Is_any s1 1 9999 W).mono fun e w' h => ⟨h.1, by rw [h.2]; exact Below.refl _ _⟩)
        have cR := hide (fun W => specRight_any s2 s3 s4 W)
        have cW := hide (fun W => l02Within_any 10 s2 s3 s4 W (by omega) (by omega))
        cases hid : idB s1
        · have HO : Hid (skyB L = false) := hide (sky_no (k := 0) (by rw [unhide HL]; exact hkn) (okAt_no1 (unhide HT) hid))
          rw [hid] at cI
          refine wp_region_quiet_below (by kernel_rfl) (by kernel_rfl) ?_
          repeat (go_big_quiet_step (first | (with_reducible exact Calls.regrown_of (unhide cI _))))
          refine wpQuiet_nil ?_
          intro _ hw'
          obtain ⟨⟨dq, osq⟩, hw''⟩ := hw'
          subst hw''
          have hx := below_call (unhide HB1) (below_regrown W1 dq osq)
          go_wp2_with fail
          go_ret
          exact ⟨by rw [unhide HO]; rfl, hx⟩
        · rw [hid] at cI
          have HU : Hid (upB L 0 = true) := hide rfl
          cases hr : rightB s2 s3 s4
          · have HO : Hid (skyB L = false) := hide (sky_no (k := 0) (by rw [unhide HL]; exact hkn) (okAt_no3 (unhide HT) (by unfold smallB; rw [hr]; rfl)))
            rw [hr] at cR
            refine wp_region_quiet_below (by kernel_rfl) (by kernel_rfl) ?_
            repeat (go_big_quiet_step (first | (with_reducible exact Calls.regrown_of (unhide cI _)) | (with_reducible exact Calls.regrown_of (unhide cR _))))
            refine wpQuiet_nil ?_
            intro _ hw'
            obtain ⟨⟨dq, osq⟩, hw''⟩ := hw'
            subst hw''
            have hx := below_call (unhide HB1) (below_regrown W1 dq osq)
            go_wp2_with fail
            go_ret
            exact ⟨by rw [unhide HO]; rfl, hx⟩
          · rw [hr] at cR
            have cP := hide (fun W => l02Prime_any s2 s3 s4 W hr)
            cases hwi : withinB 10 s2 s3 s4
            · have HO : Hid (skyB L = false) := hide (sky_no (k := 0) (by rw [unhide HL]; exact hkn) (okAt_no3 (unhide HT) (by unfold smallB; rw [hwi]; simp)))
              rw [hwi] at cW
              refine wp_region_quiet_below (by kernel_rfl) (by kernel_rfl) ?_
              repeat (go_big_quiet_step (first | (with_reducible exact Calls.regrown_of (unhide cI _)) | (with_reducible exact Calls.regrown_of (unhide cR _)) | (with_reducible exact Calls.regrown_of (unhide cW _))))
              refine wpQuiet_nil ?_
              intro _ hw'
              obtain ⟨⟨dq, osq⟩, hw''⟩ := hw'
              subst hw''
              have hx := below_call (unhide HB1) (below_regrown W1 dq osq)
              go_wp2_with fail
              go_ret
              exact ⟨by rw [unhide HO]; rfl, hx⟩
            · rw [hwi] at cW
              have hq := fun W => neq_vec (wrap64 (s2.tdiv (gI s2 s3 s4))) (wrap64 (s3.tdiv (gI s2 s3 s4))) (wrap64 (s4.tdiv (gI s2 s3 s4))) s2 s3 s4 W
              have hq2 : eqB (wrap64 (s2.tdiv (gI s2 s3 s4))) (wrap64 (s3.tdiv (gI s2 s3 s4))) (wrap64 (s4.tdiv (gI s2 s3 s4))) s2 s3 s4 = primeB s2 s3 s4 := by rw [eqB_comm]; unfold primeB prI; rw [hr]; rfl
              rw [hq2] at hq
              clear hq2
              generalize wrap64 (s2.tdiv (gI s2 s3 s4)) = t2 at cP hq
              generalize wrap64 (s3.tdiv (gI s2 s3 s4)) = t3 at cP hq
              generalize wrap64 (s4.tdiv (gI s2 s3 s4)) = t4 at cP hq
              cases hpr : primeB s2 s3 s4
              · have HO : Hid (skyB L = false) := hide (sky_no (k := 0) (by rw [unhide HL]; exact hkn) (okAt_no4 (unhide HT) hpr))
                rw [hpr] at hq
                refine wp_region_quiet_below (by kernel_rfl) (by kernel_rfl) ?_
                repeat (go_big_quiet_step (first | (with_reducible exact Calls.regrown_of (unhide cI _)) | (with_reducible exact Calls.regrown_of (unhide cR _)) | (with_reducible exact Calls.regrown_of (unhide cW _)) | (with_reducible exact Calls.regrown_of (unhide cP _))))
                refine wpQuiet_nil ?_
                intro _ hw'
                obtain ⟨⟨dq, osq⟩, hw''⟩ := hw'
                subst hw''
                have hx := below_call (unhide HB1) (below_regrown W1 dq osq)
                go_wp2_with fail
                go_ret
                exact ⟨by rw [unhide HO]; rfl, hx⟩
              · rw [hpr] at hq
                have HM : Hid (smallB s2 s3 s4 = true) := hide (by unfold smallB; rw [hr, hwi]; rfl)
                have HI := hide hid
                have HPR := hide hpr
                refine wp_region_quiet_below (by kernel_rfl) (by kernel_rfl) ?_
                repeat (go_big_quiet_step (first | (with_reducible exact Calls.regrown_of (unhide cI _)) | (with_reducible exact Calls.regrown_of (unhide cR _)) | (with_reducible exact Calls.regrown_of (unhide cW _)) | (with_reducible exact Calls.regrown_of (unhide cP _))))
                refine wpQuiet_nil ?_
                intro _ hw'
                obtain ⟨⟨dq, osq⟩, hw''⟩ := hw'
                subst hw''
                have hx := below_regrown W1 dq osq
                have hb2 := below_call (unhide HB1) hx
                have hn2 := (unhide HN1).kept (vlt (unhide HN1)) hx
                generalize grow (redrawn W1 dq) osq = W2 at hb2 hn2 hx ⊢
                have HB2 := hide hb2
                have HN2 := hide hn2
                clear hx hb2 hn2 r0 r1 r2 q0 hq cI cR cW cP hid hpr hwi hr HB1 HN1
                go_wp2_with fail
                go_loopw [5] (fun i wr => ∃ m : Nat, m ≤ 0 ∧ i = .int .i64 m ∧ Hid (freeTo L (stA L (0)) m) ∧ Hid (Below w.heap.size w wr) ∧ Hid (VecAt wr vb s2 s3 s4)) (fun i _ => (0) - (intOf i).toNat)
                case atStart => exact ⟨0, by omega, rfl, hide (fun j hj => absurd hj (Nat.not_lt_zero _)), HB2, HN2⟩
                case round =>
                  obtain ⟨m, hm, rfl, HE, HB3, HN3⟩ := hrel
                  by_cases hmk : m < 0
                  · omega
                  · have hmk' : m = 0 := by omega
                    subst hmk'
                    have HF2 := hide (ok_step (unhide HF) (okAt_yes (unhide HT) (unhide HI) (unhide HU) (unhide HM) (unhide HPR) (taken_no (unhide HE))))
                    go_wp2_with fail
                    go_roundw
                    case rel => exact ⟨0 + 1, by omega, by go_num, HF2, HB3⟩
                    case measure => simp [intOf]; omega
      · obtain ⟨j, hkj⟩ : ∃ j, k = j + 1 := ⟨k - 1, by omega⟩
        have HK : Hid (k - 1 = j) := hide (by omega)
        have HKJ := hide hkj
        have hjk : j < k := by omega
        clear hkj
        obtain ⟨⟨p1, p2, p3, p4⟩, hp⟩ : ∃ s, stA L j = s := ⟨_, rfl⟩
        have HP := hide hp
        clear hp
        go_wp2_with fail
        clear c0 c1 c2 c3
        have hb1 := unhide B1
        have hn1 := unhide N1
        generalize hwe : wr.alloc (.cells #[.int .i64 s2, .int .i64 s3, .int .i64 s4] 76) = W1 at hb1 hn1 ⊢
        generalize hwb : wr.heap.size = vb at hn1 ⊢
        have HB1 := hide hb1
        have HN1 := hide hn1
        clear hwe hwb hb1 hn1 B1 N1 HB
        obtain ⟨v0, v1, v2⟩ := unhide HN1
        have r0 := cell_regrown v0
        have r1 := cell_regrown v1
        have r2 := cell_regrown v2
        clear v0 v1 v2
        have hst := ((unhide HC) (k) hkn).kept hb (unhide HB1)
        rw [unhide HT] at hst
        have q0 := cell_regrown hst.1
        clear hst
        have hst := ((unhide HC) j (by omega)).kept hb (unhide HB1)
        rw [unhide HP] at hst
        have q1 := cell_regrown hst.1
        clear hst
        have hj1 : (k : Int) - 1 = (j : Int) := by have := unhide HKJ; omega
        have hj2 : (0 : Int) < (k : Int) := by omega
        have hj3 : (j : Int) < (n : Int) := by omega
        have cI : Hid (∀ W : World, Calls Tryz.prog 36 #[.int .i64 s1, .int .i64 1, .int .i64 9999] W fun e w' => e = .returned (.bool (idB s1)) ∧ Below W.heap.size W w') := hide (fun W => (l02Is_any s1 1 9999 W).mono fun e w' h => ⟨h.1, by rw [h.2]; exact Below.refl _ _⟩)
        have cR := hide (fun W => specRight_any s2 s3 s4 W)
        have cW := hide (fun W => l02Within_any 10 s2 s3 s4 W (by omega) (by omega))
        cases hid : idB s1
        · have HO : Hid (skyB L = false) := hide (sky_no (k := k) (by rw [unhide HL]; exact hkn) (okAt_no1 (unhide HT) hid))
          rw [hid] at cI
          refine wp_region_quiet_below (by kernel_rfl) (by kernel_rfl) ?_
          repeat (go_big_quiet_step (first | (with_reducible exact Calls.regrown_of (unhide cI _))))
          refine wpQuiet_nil ?_
          intro _ hw'
          obtain ⟨⟨dq, osq⟩, hw''⟩ := hw'
          subst hw''
          have hx := below_call (unhide HB1) (below_regrown W1 dq osq)
          go_wp2_with fail
          go_ret
          exact ⟨by rw [unhide HO]; rfl, hx⟩
        · rw [hid] at cI
          by_cases hup : s1 ≤ p1
          · have HO : Hid (skyB L = false) := hide (sky_no (k := k) (by rw [unhide HL]; exact hkn) (okAt_no2 (by unfold upB; rw [unhide HK, unhide HT]; simp [unhide HP]; omega)))
            refine wp_region_quiet_below (by kernel_rfl) (by kernel_rfl) ?_
            repeat (go_big_quiet_step (first | (with_reducible exact Calls.regrown_of (unhide cI _))))
            refine wpQuiet_nil ?_
            intro _ hw'
            obtain ⟨⟨dq, osq⟩, hw''⟩ := hw'
            subst hw''
            have hx := below_call (unhide HB1) (below_regrown W1 dq osq)
            go_wp2_with fail
            go_ret
            exact ⟨by rw [unhide HO]; rfl, hx⟩
          have HU : Hid (upB L k = true) := hide (by unfold upB; rw [unhide HK, unhide HT]; simp [unhide HP]; omega)
          have hup2 : decide (s1 ≤ p1) = false := by simp; omega
          clear hup
          cases hr : rightB s2 s3 s4
          · have HO : Hid (skyB L = false) := hide (sky_no (k := k) (by rw [unhide HL]; exact hkn) (okAt_no3 (unhide HT) (by unfold smallB; rw [hr]; rfl)))
            rw [hr] at cR
            refine wp_region_quiet_below (by kernel_rfl) (by kernel_rfl) ?_
            repeat (go_big_quiet_step (first | (with_reducible exact Calls.regrown_of (unhide cI _)) | (with_reducible exact Calls.regrown_of (unhide cR _))))
            refine wpQuiet_nil ?_
            intro _ hw'
            obtain ⟨⟨dq, osq⟩, hw''⟩ := hw'
            subst hw''
            have hx := below_call (unhide HB1) (below_regrown W1 dq osq)
            go_wp2_with fail
            go_ret
            exact ⟨by rw [unhide HO]; rfl, hx⟩
          · rw [hr] at cR
            have cP := hide (fun W => l02Prime_any s2 s3 s4 W hr)
            cases hwi : withinB 10 s2 s3 s4
            · have HO : Hid (skyB L = false) := hide (sky_no (k := k) (by rw [unhide HL]; exact hkn) (okAt_no3 (unhide HT) (by unfold smallB; rw [hwi]; simp)))
              rw [hwi] at cW
              refine wp_region_quiet_below (by kernel_rfl) (by kernel_rfl) ?_
              repeat (go_big_quiet_step (first | (with_reducible exact Calls.regrown_of (unhide cI _)) | (with_reducible exact Calls.regrown_of (unhide cR _)) | (with_reducible exact Calls.regrown_of (unhide cW _))))
              refine wpQuiet_nil ?_
              intro _ hw'
              obtain ⟨⟨dq, osq⟩, hw''⟩ := hw'
              subst hw''
              have hx := below_call (unhide HB1) (below_regrown W1 dq osq)
              go_wp2_with fail
              go_ret
              exact ⟨by rw [unhide HO]; rfl, hx⟩
            · rw [hwi] at cW
              have hq := fun W => neq_vec (wrap64 (s2.tdiv (gI s2 s3 s4))) (wrap64 (s3.tdiv (gI s2 s3 s4))) (wrap64 (s4.tdiv (gI s2 s3 s4))) s2 s3 s4 W
              have hq2 : eqB (wrap64 (s2.tdiv (gI s2 s3 s4))) (wrap64 (s3.tdiv (gI s2 s3 s4))) (wrap64 (s4.tdiv (gI s2 s3 s4))) s2 s3 s4 = primeB s2 s3 s4 := by rw [eqB_comm]; unfold primeB prI; rw [hr]; rfl
              rw [hq2] at hq
              clear hq2
              generalize wrap64 (s2.tdiv (gI s2 s3 s4)) = t2 at cP hq
              generalize wrap64 (s3.tdiv (gI s2 s3 s4)) = t3 at cP hq
              generalize wrap64 (s4.tdiv (gI s2 s3 s4)) = t4 at cP hq
              cases hpr : primeB s2 s3 s4
              · have HO : Hid (skyB L = false) := hide (sky_no (k := k) (by rw [unhide HL]; exact hkn) (okAt_no4 (unhide HT) hpr))
                rw [hpr] at hq
                refine wp_region_quiet_below (by kernel_rfl) (by kernel_rfl) ?_
                repeat (go_big_quiet_step (first | (with_reducible exact Calls.regrown_of (unhide cI _)) | (with_reducible exact Calls.regrown_of (unhide cR _)) | (with_reducible exact Calls.regrown_of (unhide cW _)) | (with_reducible exact Calls.regrown_of (unhide cP _))))
                refine wpQuiet_nil ?_
                intro _ hw'
                obtain ⟨⟨dq, osq⟩, hw''⟩ := hw'
                subst hw''
                have hx := below_call (unhide HB1) (below_regrown W1 dq osq)
                go_wp2_with fail
                go_ret
                exact ⟨by rw [unhide HO]; rfl, hx⟩
              · rw [hpr] at hq
                have HM : Hid (smallB s2 s3 s4 = true) := hide (by unfold smallB; rw [hr, hwi]; rfl)
                have HI := hide hid
                have HPR := hide hpr
                refine wp_region_quiet_below (by kernel_rfl) (by kernel_rfl) ?_
                repeat (go_big_quiet_step (first | (with_reducible exact Calls.regrown_of (unhide cI _)) | (with_reducible exact Calls.regrown_of (unhide cR _)) | (with_reducible exact Calls.regrown_of (unhide cW _)) | (with_reducible exact Calls.regrown_of (unhide cP _))))
                refine wpQuiet_nil ?_
                intro _ hw'
                obtain ⟨⟨dq, osq⟩, hw''⟩ := hw'
                subst hw''
                have hx := below_regrown W1 dq osq
                have hb2 := below_call (unhide HB1) hx
                have hn2 := (unhide HN1).kept (vlt (unhide HN1)) hx
                generalize grow (redrawn W1 dq) osq = W2 at hb2 hn2 hx ⊢
                have HB2 := hide hb2
                have HN2 := hide hn2
                clear hx hb2 hn2 r0 r1 r2 q0 hq cI cR cW cP hid hpr hwi hr HB1 HN1 q1 hup2
                go_wp2_with fail
                go_loopw [5] (fun i wr => ∃ m : Nat, m ≤ k ∧ i = .int .i64 m ∧ Hid (freeTo L (stA L (k)) m) ∧ Hid (Below w.heap.size w wr) ∧ Hid (VecAt wr vb s2 s3 s4)) (fun i _ => (k) - (intOf i).toNat)
                case atStart => exact ⟨0, by omega, rfl, hide (fun j hj => absurd hj (Nat.not_lt_zero _)), HB2, HN2⟩
                case round =>
                  obtain ⟨m, hm, rfl, HE, HB3, HN3⟩ := hrel
                  by_cases hmk : m < k
                  · obtain ⟨⟨t1, t2, t3, t4⟩, ht⟩ : ∃ s, stA L m = s := ⟨_, rfl⟩
                    have hst := ((unhide HC) m (by omega)).kept hb (unhide HB3)
                    rw [ht] at hst
                    have hmn : (m : Int) < (n : Int) := by omega
                    have hmj : (m : Int) < (k : Int) := by omega
                    obtain ⟨_, g1, g2, g3⟩ := hst
                    have k1 := cell_regrown g1
                    have k2 := cell_regrown g2
                    have k3 := cell_regrown g3
                    clear g1 g2 g3
                    obtain ⟨v0, v1, v2⟩ := unhide HN3
                    have r0 := cell_regrown v0
                    have r1 := cell_regrown v1
                    have r2 := cell_regrown v2
                    clear v0 v1 v2
                    have HQ : Hid (sameS (stA L k) (stA L m) = (eqB (crW t3 t4 s3 s4) (crW t4 t2 s4 s2) (crW t2 t3 s2 s3) 0 0 0 && decide (0 < dotW t2 t3 t4 s2 s3 s4))) := hide (by
                      have hsm := ok_small ((unhide HF) m (by omega))
                      rw [ht] at hsm
                      have e := same_eq hsm (unhide HM)
                      rw [sameB_comm hsm (unhide HM)] at e
                      rw [ht, unhide HT]
                      exact e.symm)
                    have cE := hide (fun W => l02Same_any t2 t3 t4 s2 s3 s4 W)
                    generalize (eqB (crW t3 t4 s3 s4) (crW t4 t2 s4 s2) (crW t2 t3 s2 s3) 0 0 0 && decide (0 < dotW t2 t3 t4 s2 s3 s4)) = y at HQ cE
                    clear ht
                    go_wp2_with fail
                    refine wp_region_quiet_below (by kernel_rfl) (by kernel_rfl) ?_
                    repeat (go_big_quiet_step (first | (with_reducible exact Calls.regrown_of (unhide cE _))))
                    refine wpQuiet_nil ?_
                    intro _ hw'
                    obtain ⟨⟨dq, osq⟩, hw''⟩ := hw'
                    subst hw''
                    have hx := below_regrown wr dq osq
                    have hb4 := below_call (unhide HB3) hx
                    have hn4 := (unhide HN3).kept (vlt (unhide HN3)) hx
                    generalize grow (redrawn wr dq) osq = W4 at hx hb4 hn4 ⊢
                    have HB4 := hide hb4
                    have HN4 := hide hn4
                    clear hx hb4 hn4 r0 r1 r2 k1 k2 k3 cE HB3 HN3
                    cases y
                    · go_wp2_with fail
                      go_roundw
                      case rel => exact ⟨m + 1, by omega, by go_num, hide (free_step (unhide HE) (unhide HQ)), HB4, HN4⟩
                      case measure => simp [intOf]; omega
                    · have HO : Hid (skyB L = false) := hide (sky_no (k := k) (by rw [unhide HL]; exact hkn) (okAt_no5 (taken_yes hmk (unhide HQ))))
                      go_wp2_with fail
                      go_ret
                      exact ⟨by rw [unhide HO]; rfl, unhide HB4⟩
                  · have hmk' : m = k := by omega
                    subst hmk'
                    have HF2 := hide (ok_step (unhide HF) (okAt_yes (unhide HT) (unhide HI) (unhide HU) (unhide HM) (unhide HPR) (taken_no (unhide HE))))
                    go_wp2_with fail
                    go_roundw
                    case rel => exact ⟨m + 1, by omega, by go_num, HF2, HB3⟩
                    case measure => simp [intOf]; omega
    · have hkn' : k = n := by omega
      subst hkn'
      have HO := hide (sky_yes (L := L) (by rw [unhide HL]; omega) (by rw [unhide HL]; exact unhide HF))
      go_wp2_with fail
      go_ret
      exact ⟨by rw [unhide HO]; rfl, unhide HB⟩
end Go.Proofs.YtofpjlhoppofdaaGreatDoor

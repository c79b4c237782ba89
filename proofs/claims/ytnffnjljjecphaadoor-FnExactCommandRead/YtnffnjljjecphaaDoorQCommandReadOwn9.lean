/- Several texts in one: SkyE, SkyF, Scope, Scan. -/
import Derived.OwnWalk
import Derived.Laws.OwnMore
import Derived.WalkKit
import Derived.Scope
import Derived.WalkMore
import Derived.Laws.BytesArg
import Derived.Test.YtnffnjljjecphaaDoorQCommandReadOwn8
import Derived.Test.YtnffnjljjecphaaDoorQCommandReadOwn2
namespace Go.Proofs.YtnffnjljjecphaaDoor
open Go.RowKit Go.Sort
set_option linter.unusedVariables false

theorem eqB_comm (a1 a2 a3 b1 b2 b3 : Int) : eqB a1 a2 a3 b1 b2 b3 = eqI b1 b2 b3 a1 a2 a3 := by
  unfold eqB eqI
  congr 1
  apply propext
  constructor <;> rintro ⟨h1, h2, h3⟩ <;> exact ⟨h1.symm, h2.symm, h3.symm⟩
theorem okAt_no1 {L : List St} {i : Nat} {s1 s2 s3 s4 : Int} (hs : stA L i = (s1, s2, s3, s4)) (h : idB s1 = false) : okAt L i = false := by unfold okAt; rw [hs]; simp [h]
theorem okAt_no2 {L : List St} {i : Nat} (h : upB L i = false) : okAt L i = false := by unfold okAt; simp [h]
theorem okAt_no3 {L : List St} {i : Nat} {s1 s2 s3 s4 : Int} (hs : stA L i = (s1, s2, s3, s4)) (h : smallB s2 s3 s4 = false) : okAt L i = false := by unfold okAt; rw [hs]; simp [h]
theorem okAt_no4 {L : List St} {i : Nat} {s1 s2 s3 s4 : Int} (hs : stA L i = (s1, s2, s3, s4)) (h : primeB s2 s3 s4 = false) : okAt L i = false := by unfold okAt; rw [hs]; simp [h]
theorem okAt_no5 {L : List St} {i : Nat} (h : takenB L (stA L i) i = true) : okAt L i = false := by unfold okAt; simp [h]
theorem okAt_yes {L : List St} {i : Nat} {s1 s2 s3 s4 : Int} (hs : stA L i = (s1, s2, s3, s4)) (h1 : idB s1 = true) (h2 : upB L i = true) (h3 : smallB s2 s3 s4 = true) (h4 : primeB s2 s3 s4 = true) (h5 : takenB L (stA L i) i = false) : okAt L i = true := by
  unfold okAt
  rw [h5, h2, hs]
  simp [h1, h3, h4]

set_option maxHeartbeats 8000000 in
set_option maxRecDepth 100000 in
theorem specSky_any (L : List St) (a : Option Addr) (c : Nat) (w : World) (hn : L.length ≤ 1048576) (hS : Stars w a L L.length) :
    Calls Tryd.prog 90 #[.slice a L.length c] w fun e w' => e = .returned (.bool (skyB L)) ∧ Below w.heap.size w w' := by
  obtain ⟨n, hnl⟩ : ∃ n, L.length = n := ⟨_, rfl⟩
  rw [hnl] at hn hS ⊢
  have HL := hide hnl
  clear hnl
  by_cases h12 : 12 < n
  · have h12' : (12 : Int) < (n : Int) := by omega
    have HO : Hid (skyB L = false) := hide (sky_long (by rw [unhide HL]; exact h12))
    clear hS
    go_enter Tryd.func90, Tryd.ntmps90
    go_wp2
    go_ret
    exact ⟨by rw [unhide HO]; rfl, Below.refl _ _⟩
  have h12' : ¬ (12 : Int) < (n : Int) := by omega
  rcases hS with rfl | ⟨b, o, rfl, hb, hc⟩
  · have HO : Hid (skyB L = true) := hide (sky_yes (by rw [unhide HL]; omega) (by rw [unhide HL]; intro j hj; omega))
    go_enter Tryd.func90, Tryd.ntmps90
    go_wp2_with fail
    refine wp_loop_rounds 1 ?_
    rw [rounds_succ]
    go_wp2_with fail
    go_ret
    exact ⟨by rw [unhide HO]; rfl, Below.refl _ _⟩
  have HC := hide hc
  clear hc
  go_enter Tryd.func90, Tryd.ntmps90
  go_wp2_with fail
  go_loopw [3] (fun i wr => ∃ k : Nat, k ≤ n ∧ i = .int .i64 k ∧ Hid (okTo L k) ∧ Hid (Below w.heap.size w wr)) (fun i _ => n - (intOf i).toNat)
  case atStart => exact ⟨0, by omega, rfl, hide (fun j hj => absurd hj (Nat.not_lt_zero _)), hide (Below.refl _ _)⟩
  case round =>
    obtain ⟨k, hk, rfl, HF, HB⟩ := hrel
    by_cases hkn : k < n
    · obtain ⟨⟨s1, s2, s3, s4⟩, hs⟩ : ∃ s, stA L k = s := ⟨_, rfl⟩
      have hst := ((unhide HC) k hkn).kept hb (unhide HB)
      rw [hs] at hst
      obtain ⟨c0, c1, c2, c3⟩ := hst
      have HT := hide hs
      clear hs
      have hkn2 : (k : Int) < (n : Int) := by omega
      have B1 := hide ((unhide HB).alloc (unhide HB).size (.cells #[.int .i64 s2, .int .i64 s3, .int .i64 s4] 75))
      have N1 := hide (vecAt_new wr s2 s3 s4 75)
      rcases Nat.eq_zero_or_pos k with hk0 | hk0
      · subst hk0
        go_wp2_with fail
        clear c0 c1 c2 c3
        have hb1 := unhide B1
        have hn1 := unhide N1
        generalize hwe : wr.alloc (.cells #[.int .i64 s2, .int .i64 s3, .int .i64 s4] 75) = W1 at hb1 hn1 ⊢
        generalize hwb : wr.heap.size = vb at hn1 ⊢
        have HB1 := hide hb1
        have HN1 := hide hn1
        clear hwe hwb hb1 hn1 B1 N1 HB
        obtain ⟨v0, v1, v2⟩ := unhide HN1
        have r0 := cell_regrown v0
        have r1 := cell_regrown v1
        have r2 := cell_regrown v2
        clear v0 v1 v2
        have hst := ((unhide HC) (0) hkn).kept hb (unhide HB1)
        rw [unhide HT] at hst
        have hst1 := hst.1
        simp only [Nat.zero_mul, Nat.add_zero] at hst1
        have q0 := cell_regrown hst1
        clear hst hst1
        have cI : Hid (∀ W : World, Calls Tryd.prog 29 #[.int .i64 s1, .int .i64 1, .int .i64 9999] W fun e w' => e = .returned (.bool (idB s1)) ∧ Below W.heap.size W w') := hide (fun W => (l02Is_any s1 1 9999 W).mono fun e w' h => ⟨h.1, by rw [h.2]; exact Below.refl _ _⟩)
        have cR := hide (fun W => specRight_any s2 s3 s4 W)
        have cW := hide (fun W => l02Within_any 10 s2 s3 s4 W (by omega) (by omega))
        cases hid : idB s1
        · have HO : Hid (skyB L = false) := hide (sky_no (k := 0) (by rw [unhide HL]; exact hkn) (okAt_no1 (unhide HT) hid))
          rw [hid] at cI
          refine wp_region_quiet_below (by kernel_rfl) (by kernel_rfl) ?_
          repeat (go_big_quiet_step (first | (with_reducible exact Calls.regrown_of (unhide cI _))))
          refine wpQuiet_nil ?_
          intro _ hw'
          obtain ⟨⟨dq, osq⟩, hw''⟩ := hw'
          subst hw''
          have hx := below_call (unhide HB1) (below_regrown W1 dq osq)
          go_wp2_with fail
          go_ret
          exact ⟨by rw [unhide HO]; rfl, hx⟩
        · rw [hid] at cI
          have HU : Hid (upB L 0 = true) := hide rfl
          cases hr : rightB s2 s3 s4
          · have HO : Hid (skyB L = false) := hide (sky_no (k := 0) (by rw [unhide HL]; exact hkn) (okAt_no3 (unhide HT) (by unfold smallB; rw [hr]; rfl)))
            rw [hr] at cR
            refine wp_region_quiet_below (by kernel_rfl) (by kernel_rfl) ?_
            repeat (go_big_quiet_step (first | (with_reducible exact Calls.regrown_of (unhide cI _)) | (with_reducible exact Calls.regrown_of (unhide cR _))))
            refine wpQuiet_nil ?_
            intro _ hw'
            obtain ⟨⟨dq, osq⟩, hw''⟩ := hw'
            subst hw''
            have hx := below_call (unhide HB1) (below_regrown W1 dq osq)
            go_wp2_with fail
            go_ret
            exact ⟨by rw [unhide HO]; rfl, hx⟩
          · rw [hr] at cR
            have cP := hide (fun W => l02Prime_any s2 s3 s4 W hr)
            cases hwi : withinB 10 s2 s3 s4
            · have HO : Hid (skyB L = false) := hide (sky_no (k := 0) (by rw [unhide HL]; exact hkn) (okAt_no3 (unhide HT) (by unfold smallB; rw [hwi]; simp)))
              rw [hwi] at cW
              refine wp_region_quiet_below (by kernel_rfl) (by kernel_rfl) ?_
              repeat (go_big_quiet_step (first | (with_reducible exact Calls.regrown_of (unhide cI _)) | (with_reducible exact Calls.regrown_of (unhide cR _)) | (with_reducible exact Calls.regrown_of (unhide cW _))))
              refine wpQuiet_nil ?_
              intro _ hw'
              obtain ⟨⟨dq, osq⟩, hw''⟩ := hw'
              subst hw''
              have hx := below_call (unhide HB1) (below_regrown W1 dq osq)
              go_wp2_with fail
              go_ret
              exact ⟨by rw [unhide HO]; rfl, hx⟩
            · rw [hwi] at cW
              have hq := fun W => neq_vec (wrap64 (s2.tdiv (gI s2 s3 s4))) (wrap64 (s3.tdiv (gI s2 s3 s4))) (wrap64 (s4.tdiv (gI s2 s3 s4))) s2 s3 s4 W
              have hq2 : eqB (wrap64 (s2.tdiv (gI s2 s3 s4))) (wrap64 (s3.tdiv (gI s2 s3 s4))) (wrap64 (s4.tdiv (gI s2 s3 s4))) s2 s3 s4 = primeB s2 s3 s4 := by rw [eqB_comm]; unfold primeB prI; rw [hr]; rfl
              rw [hq2] at hq
              clear hq2
              generalize wrap64 (s2.tdiv (gI s2 s3 s4)) = t2 at cP hq
              generalize wrap64 (s3.tdiv (gI s2 s3 s4)) = t3 at cP hq
              generalize wrap64 (s4.tdiv (gI s2 s3 s4)) = t4 at cP hq
              cases hpr : primeB s2 s3 s4
              · have HO : Hid (skyB L = false) := hide (sky_no (k := 0) (by rw [unhide HL]; exact hkn) (okAt_no4 (unhide HT) hpr))
                rw [hpr] at hq
                refine wp_region_quiet_below (by kernel_rfl) (by kernel_rfl) ?_
                repeat (go_big_quiet_step (first | (with_reducible exact Calls.regrown_of (unhide cI _)) | (with_reducible exact Calls.regrown_of (unhide cR _)) | (with_reducible exact Calls.regrown_of (unhide cW _)) | (with_reducible exact Calls.regrown_of (unhide cP _))))
                refine wpQuiet_nil ?_
                intro _ hw'
                obtain ⟨⟨dq, osq⟩, hw''⟩ := hw'
                subst hw''
                have hx := below_call (unhide HB1) (below_regrown W1 dq osq)
                go_wp2_with fail
                go_ret
                exact ⟨by rw [unhide HO]; rfl, hx⟩
              · rw [hpr] at hq
                have HM : Hid (smallB s2 s3 s4 = true) := hide (by unfold smallB; rw [hr, hwi]; rfl)
                have HI := hide hid
                have HPR := hide hpr
                refine wp_region_quiet_below (by kernel_rfl) (by kernel_rfl) ?_
                repeat (go_big_quiet_step (first | (with_reducible exact Calls.regrown_of (unhide cI _)) | (with_reducible exact Calls.regrown_of (unhide cR _)) | (with_reducible exact Calls.regrown_of (unhide cW _)) | (with_reducible exact Calls.regrown_of (unhide cP _))))
                refine wpQuiet_nil ?_
                intro _ hw'
                obtain ⟨⟨dq, osq⟩, hw''⟩ := hw'
                subst hw''
                have hx := below_regrown W1 dq osq
                have hb2 := below_call (unhide HB1) hx
                have hn2 := (unhide HN1).kept (vlt (unhide HN1)) hx
                generalize grow (redrawn W1 dq) osq = W2 at hb2 hn2 hx ⊢
                have HB2 := hide hb2
                have HN2 := hide hn2
                clear hx hb2 hn2 r0 r1 r2 q0 hq cI cR cW cP hid hpr hwi hr HB1 HN1
                go_wp2_with fail
                go_loopw [5] (fun i wr => ∃ m : Nat, m ≤ 0 ∧ i = .int .i64 m ∧ Hid (freeTo L (stA L (0)) m) ∧ Hid (Below w.heap.size w wr) ∧ Hid (VecAt wr vb s2 s3 s4)) (fun i _ => (0) - (intOf i).toNat)
                case atStart => exact ⟨0, by omega, rfl, hide (fun j hj => absurd hj (Nat.not_lt_zero _)), HB2, HN2⟩
                case round =>
                  obtain ⟨m, hm, rfl, HE, HB3, HN3⟩ := hrel
                  by_cases hmk : m < 0
                  · omega
                  · have hmk' : m = 0 := by omega
                    subst hmk'
                    have HF2 := hide (ok_step (unhide HF) (okAt_yes (unhide HT) (unhide HI) (unhide HU) (unhide HM) (unhide HPR) (taken_no (unhide HE))))
                    go_wp2_with fail
                    go_roundw
                    case rel => exact ⟨0 + 1, by omega, by go_num, HF2, HB3⟩
                    case measure => simp [intOf]; omega
      · obtain ⟨j, hkj⟩ : ∃ j, k = j + 1 := ⟨k - 1, by omega⟩
        have HK : Hid (k - 1 = j) := hide (by omega)
        have HKJ := hide hkj
        have hjk : j < k := by omega
        clear hkj
        obtain ⟨⟨p1, p2, p3, p4⟩, hp⟩ : ∃ s, stA L j = s := ⟨_, rfl⟩
        have HP := hide hp
        clear hp
        go_wp2_with fail
        clear c0 c1 c2 c3
        have hb1 := unhide B1
        have hn1 := unhide N1
        generalize hwe : wr.alloc (.cells #[.int .i64 s2, .int .i64 s3, .int .i64 s4] 75) = W1 at hb1 hn1 ⊢
        generalize hwb : wr.heap.size = vb at hn1 ⊢
        have HB1 := hide hb1
        have HN1 := hide hn1
        clear hwe hwb hb1 hn1 B1 N1 HB
        obtain ⟨v0, v1, v2⟩ := unhide HN1
        have r0 := cell_regrown v0
        have r1 := cell_regrown v1
        have r2 := cell_regrown v2
        clear v0 v1 v2
        have hst := ((unhide HC) (k) hkn).kept hb (unhide HB1)
        rw [unhide HT] at hst
        have q0 := cell_regrown hst.1
        clear hst
        have hst := ((unhide HC) j (by omega)).kept hb (unhide HB1)
        rw [unhide HP] at hst
        have q1 := cell_regrown hst.1
        clear hst
        have hj1 : (k : Int) - 1 = (j : Int) := by have := unhide HKJ; omega
        have hj2 : (0 : Int) < (k : Int) := by omega
        have hj3 : (j : Int) < (n : Int) := by omega
        have cI : Hid (∀ W : World, Calls Tryd.prog 29 #[.int .i64 s1, .int .i64 1, .int .i64 9999] W fun e w' => e = .returned (.bool (idB s1)) ∧ Below W.heap.size W w') := hide (fun W => (l02Is_any s1 1 9999 W).mono fun e w' h => ⟨h.1, by rw [h.2]; exact Below.refl _ _⟩)
        have cR := hide (fun W => specRight_any s2 s3 s4 W)
        have cW := hide (fun W => l02Within_any 10 s2 s3 s4 W (by omega) (by omega))
        cases hid : idB s1
        · have HO : Hid (skyB L = false) := hide (sky_no (k := k) (by rw [unhide HL]; exact hkn) (okAt_no1 (unhide HT) hid))
          rw [hid] at cI
          refine wp_region_quiet_below (by kernel_rfl) (by kernel_rfl) ?_
          repeat (go_big_quiet_step (first | (with_reducible exact Calls.regrown_of (unhide cI _))))
          refine wpQuiet_nil ?_
          intro _ hw'
          obtain ⟨⟨dq, osq⟩, hw''⟩ := hw'
          subst hw''
          have hx := below_call (unhide HB1) (below_regrown W1 dq osq)
          go_wp2_with fail
          go_ret
          exact ⟨by rw [unhide HO]; rfl, hx⟩
        · rw [hid] at cI
          by_cases hup : s1 ≤ p1
          · have HO : Hid (skyB L = false) := hide (sky_no (k := k) (by rw [unhide HL]; exact hkn) (okAt_no2 (by unfold upB; rw [unhide HK, unhide HT]; simp [unhide HP]; omega)))
            refine wp_region_quiet_below (by kernel_rfl) (by kernel_rfl) ?_
            repeat (go_big_quiet_step (first | (with_reducible exact Calls.regrown_of (unhide cI _))))
            refine wpQuiet_nil ?_
            intro _ hw'
            obtain ⟨⟨dq, osq⟩, hw''⟩ := hw'
            subst hw''
            have hx := below_call (unhide HB1) (below_regrown W1 dq osq)
            go_wp2_with fail
            go_ret
            exact ⟨by rw [unhide HO]; rfl, hx⟩
          have HU : Hid (upB L k = true) := hide (by unfold upB; rw [unhide HK, unhide HT]; simp [unhide HP]; omega)
          have hup2 : decide (s1 ≤ p1) = false := by simp; omega
          clear hup
          cases hr : rightB s2 s3 s4
          · have HO : Hid (skyB L = false) := hide (sky_no (k := k) (by rw [unhide HL]; exact hkn) (okAt_no3 (unhide HT) (by unfold smallB; rw [hr]; rfl)))
            rw [hr] at cR
            refine wp_region_quiet_below (by kernel_rfl) (by kernel_rfl) ?_
            repeat (go_big_quiet_step (first | (with_reducible exact Calls.regrown_of (unhide cI _)) | (with_reducible exact Calls.regrown_of (unhide cR _))))
            refine wpQuiet_nil ?_
            intro _ hw'
            obtain ⟨⟨dq, osq⟩, hw''⟩ := hw'
            subst hw''
            have hx := below_call (unhide HB1) (below_regrown W1 dq osq)
            go_wp2_with fail
            go_ret
            exact ⟨by rw [unhide HO]; rfl, hx⟩
          · rw [hr] at cR
            have cP := hide (fun W => l02Prime_any s2 s3 s4 W hr)
            cases hwi : withinB 10 s2 s3 s4
            · have HO : Hid (skyB L = false) := hide (sky_no (k := k) (by rw [unhide HL]; exact hkn) (okAt_no3 (unhide HT) (by unfold smallB; rw [hwi]; simp)))
              rw [hwi] at cW
              refine wp_region_quiet_below (by kernel_rfl) (by kernel_rfl) ?_
              repeat (go_big_quiet_step (first | (with_reducible exact Calls.regrown_of (unhide cI _)) | (with_reducible exact Calls.regrown_of (unhide cR _)) | (with_reducible exact Calls.regrown_of (unhide cW _))))
              refine wpQuiet_nil ?_
              intro _ hw'
              obtain ⟨⟨dq, osq⟩, hw''⟩ := hw'
              subst hw''
              have hx := below_call (unhide HB1) (below_regrown W1 dq osq)
              go_wp2_with fail
              go_ret
              exact ⟨by rw [unhide HO]; rfl, hx⟩
            · rw [hwi] at cW
              have hq := fun W => neq_vec (wrap64 (s2.tdiv (gI s2 s3 s4))) (wrap64 (s3.tdiv (gI s2 s3 s4))) (wrap64 (s4.tdiv (gI s2 s3 s4))) s2 s3 s4 W
              have hq2 : eqB (wrap64 (s2.tdiv (gI s2 s3 s4))) (wrap64 (s3.tdiv (gI s2 s3 s4))) (wrap64 (s4.tdiv (gI s2 s3 s4))) s2 s3 s4 = primeB s2 s3 s4 := by rw [eqB_comm]; unfold primeB prI; rw [hr]; rfl
              rw [hq2] at hq
              clear hq2
              generalize wrap64 (s2.tdiv (gI s2 s3 s4)) = t2 at cP hq
              generalize wrap64 (s3.tdiv (gI s2 s3 s4)) = t3 at cP hq
              generalize wrap64 (s4.tdiv (gI s2 s3 s4)) = t4 at cP hq
              cases hpr : primeB s2 s3 s4
              · have HO : Hid (skyB L = false) := hide (sky_no (k := k) (by rw [unhide HL]; exact hkn) (okAt_no4 (unhide HT) hpr))
                rw [hpr] at hq
                refine wp_region_quiet_below (by kernel_rfl) (by kernel_rfl) ?_
                repeat (go_big_quiet_step (first | (with_reducible exact Calls.regrown_of (unhide cI _)) | (with_reducible exact Calls.regrown_of (unhide cR _)) | (with_reducible exact Calls.regrown_of (unhide cW _)) | (with_reducible exact Calls.regrown_of (unhide cP _))))
                refine wpQuiet_nil ?_
                intro _ hw'
                obtain ⟨⟨dq, osq⟩, hw''⟩ := hw'
                subst hw''
                have hx := below_call (unhide HB1) (below_regrown W1 dq osq)
                go_wp2_with fail
                go_ret
                exact ⟨by rw [unhide HO]; rfl, hx⟩
              · rw [hpr] at hq
                have HM : Hid (smallB s2 s3 s4 = true) := hide (by unfold smallB; rw [hr, hwi]; rfl)
                have HI := hide hid
                have HPR := hide hpr
                refine wp_region_quiet_below (by kernel_rfl) (by kernel_rfl) ?_
                repeat (go_big_quiet_step (first | (with_reducible exact Calls.regrown_of (unhide cI _)) | (with_reducible exact Calls.regrown_of (unhide cR _)) | (with_reducible exact Calls.regrown_of (unhide cW _)) | (with_reducible exact Calls.regrown_of (unhide cP _))))
                refine wpQuiet_nil ?_
                intro _ hw'
                obtain ⟨⟨dq, osq⟩, hw''⟩ := hw'
                subst hw''
                have hx := below_regrown W1 dq osq
                have hb2 := below_call (unhide HB1) hx
                have hn2 := (unhide HN1).kept (vlt (unhide HN1)) hx
                generalize grow (redrawn W1 dq) osq = W2 at hb2 hn2 hx ⊢
                have HB2 := hide hb2
                have HN2 := hide hn2
                clear hx hb2 hn2 r0 r1 r2 q0 hq cI cR cW cP hid hpr hwi hr HB1 HN1 q1 hup2
                go_wp2_with fail
                go_loopw [5] (fun i wr => ∃ m : Nat, m ≤ k ∧ i = .int .i64 m ∧ Hid (freeTo L (stA L (k)) m) ∧ Hid (Below w.heap.size w wr) ∧ Hid (VecAt wr vb s2 s3 s4)) (fun i _ => (k) - (intOf i).toNat)
                case atStart => exact ⟨0, by omega, rfl, hide (fun j hj => absurd hj (Nat.not_lt_zero _)), HB2, HN2⟩
                case round =>
                  obtain ⟨m, hm, rfl, HE, HB3, HN3⟩ := hrel
                  by_cases hmk : m < k
                  · obtain ⟨⟨t1, t2, t3, t4⟩, ht⟩ : ∃ s, stA L m = s := ⟨_, rfl⟩
                    have hst := ((unhide HC) m (by omega)).kept hb (unhide HB3)
                    rw [ht] at hst
                    have hmn : (m : Int) < (n : Int) := by omega
                    have hmj : (m : Int) < (k : Int) := by omega
                    obtain ⟨_, g1, g2, g3⟩ := hst
                    have k1 := cell_regrown g1
                    have k2 := cell_regrown g2
                    have k3 := cell_regrown g3
                    clear g1 g2 g3
                    obtain ⟨v0, v1, v2⟩ := unhide HN3
                    have r0 := cell_regrown v0
                    have r1 := cell_regrown v1
                    have r2 := cell_regrown v2
                    clear v0 v1 v2
                    have HQ : Hid (sameS (stA L k) (stA L m) = (eqB (crW t3 t4 s3 s4) (crW t4 t2 s4 s2) (crW t2 t3 s2 s3) 0 0 0 && decide (0 < dotW t2 t3 t4 s2 s3 s4))) := hide (by
                      have hsm := ok_small ((unhide HF) m (by omega))
                      rw [ht] at hsm
                      have e := same_eq hsm (unhide HM)
                      rw [sameB_comm hsm (unhide HM)] at e
                      rw [ht, unhide HT]
                      exact e.symm)
                    have cE := hide (fun W => l02Same_any t2 t3 t4 s2 s3 s4 W)
                    generalize (eqB (crW t3 t4 s3 s4) (crW t4 t2 s4 s2) (crW t2 t3 s2 s3) 0 0 0 && decide (0 < dotW t2 t3 t4 s2 s3 s4)) = y at HQ cE
                    clear ht
                    go_wp2_with fail
                    refine wp_region_quiet_below (by kernel_rfl) (by kernel_rfl) ?_
                    repeat (go_big_quiet_step (first | (with_reducible exact Calls.regrown_of (unhide cE _))))
                    refine wpQuiet_nil ?_
                    intro _ hw'
                    obtain ⟨⟨dq, osq⟩, hw''⟩ := hw'
                    subst hw''
                    have hx := below_regrown wr dq osq
                    have hb4 := below_call (unhide HB3) hx
                    have hn4 := (unhide HN3).kept (vlt (unhide HN3)) hx
                    generalize grow (redrawn wr dq) osq = W4 at hx hb4 hn4 ⊢
                    have HB4 := hide hb4
                    have HN4 := hide hn4
                    clear hx hb4 hn4 r0 r1 r2 k1 k2 k3 cE HB3 HN3
                    cases y
                    · go_wp2_with fail
                      go_roundw
                      case rel => exact ⟨m + 1, by omega, by go_num, hide (free_step (unhide HE) (unhide HQ)), HB4, HN4⟩
                      case measure => simp [intOf]; omega
                    · have HO : Hid (skyB L = false) := hide (sky_no (k := k) (by rw [unhide HL]; exact hkn) (okAt_no5 (taken_yes hmk (unhide HQ))))
                      go_wp2_with fail
                      go_ret
                      exact ⟨by rw [unhide HO]; rfl, unhide HB4⟩
                  · have hmk' : m = k := by omega
                    subst hmk'
                    have HF2 := hide (ok_step (unhide HF) (okAt_yes (unhide HT) (unhide HI) (unhide HU) (unhide HM) (unhide HPR) (taken_no (unhide HE))))
                    go_wp2_with fail
                    go_roundw
                    case rel => exact ⟨m + 1, by omega, by go_num, HF2, HB3⟩
                    case measure => simp [intOf]; omega
    · have hkn' : k = n := by omega
      subst hkn'
      have HO := hide (sky_yes (L := L) (by rw [unhide HL]; omega) (by rw [unhide HL]; exact unhide HF))
      go_wp2_with fail
      go_ret
      exact ⟨by rw [unhide HO]; rfl, unhide HB⟩
end Go.Proofs.YtnffnjljjecphaaDoor

namespace Go.Proofs.YtnffnjljjecphaaDoor
open Go.RowKit Go.Sort
set_option linter.unusedVariables false

def FreeS (w : World) (b o : Nat) : Prop := w.frozen? ⟨b, o, none⟩ = false ∧ w.frozen? ⟨b, o + 1, none⟩ = false ∧ w.frozen? ⟨b, o + 2, none⟩ = false ∧ w.frozen? ⟨b, o + 3, none⟩ = false
theorem FreeS.kept {w w' : World} {b o : Nat} (h : FreeS w b o) (hb : b < w.heap.size) (hB : Below w.heap.size w w') : FreeS w' b o := by
  obtain ⟨h0, h1, h2, h3⟩ := h
  exact ⟨by rw [hB.frozen (p := ⟨b, o, none⟩) hb]; exact h0, by rw [hB.frozen (p := ⟨b, o + 1, none⟩) hb]; exact h1, by rw [hB.frozen (p := ⟨b, o + 2, none⟩) hb]; exact h2, by rw [hB.frozen (p := ⟨b, o + 3, none⟩) hb]; exact h3⟩
theorem freeS_new (w : World) (s : St) (t : TypeId) : FreeS (w.alloc (.cells #[.int .i64 s.1, .int .i64 s.2.1, .int .i64 s.2.2.1, .int .i64 s.2.2.2] t)) w.heap.size 0 := by
  refine ⟨?_, ?_, ?_, ?_⟩ <;> simp

set_option maxRecDepth 100000 in
theorem szStarS_any (a : Option Addr) (n c : Nat) (w : World) (hn : n ≤ 1048576) :
    Calls Tryd.prog 56 #[.slice a n c, .int .i64 1048576] w fun e w' => e = .returned (.int .i64 (1048576 - (n : Int))) ∧ w' = w := by
  have h : ¬ (1048576 : Int) - (n : Int) < 0 := by omega
  go_enter Tryd.func56, Tryd.ntmps56
  go_wp2
  go_ret
  exact ⟨rfl, rfl⟩
set_option maxRecDepth 100000 in
theorem szStarS_big (a : Option Addr) (n c : Nat) (w : World) (hn : 1048576 < n) (hm : n ≤ 9223372036854775807) :
    Calls Tryd.prog 56 #[.slice a n c, .int .i64 1048576] w fun e w' => e = .returned (.int .i64 (-1)) ∧ w' = w := by
  have h : (1048576 : Int) - (n : Int) < 0 := by omega
  go_enter Tryd.func56, Tryd.ntmps56
  go_wp2
  go_ret
  exact ⟨rfl, rfl⟩

set_option maxRecDepth 100000 in
theorem toVec_any (x y z : Int) (w : World) :
    Calls Tryd.prog 67 #[.agg #[.int .i64 x, .int .i64 y, .int .i64 z]] w fun e w' => e = .returned (.agg #[.int .i64 x, .int .i64 y, .int .i64 z]) ∧ Below w.heap.size w w' := by
  go_enter Tryd.func67, Tryd.ntmps67
  go_wp2
  exact bodyPost_ret (v := .agg #[.int .i64 x, .int .i64 y, .int .i64 z]) (by simp [results, Tryd.results67, go_sem]) rfl ⟨rfl, below3 _ _ _ _⟩
set_option maxRecDepth 100000 in
theorem toStar_any (i x y z : Int) (w : World) :
    Calls Tryd.prog 92 #[.agg #[.int .i64 i, .int .i64 x, .int .i64 y, .int .i64 z]] w fun e w' => e = .returned (.agg #[.int .i64 i, .int .i64 x, .int .i64 y, .int .i64 z]) ∧ Below w.heap.size w w' := by
  go_enter Tryd.func92, Tryd.ntmps92
  go_wp2_with fail
  refine (toVec_any x y z _).mono ?_
  rintro e w1 ⟨rfl, hx⟩
  have hB : Below w.heap.size w w1 := below_call (below3 _ _ _ _) hx
  have sa : StarAt w1 (w.heap.size + 1 + 1) 0 (i, 0, 0, 0) := (by simpa using starAt_new ((w.alloc _).alloc _) (i, 0, 0, 0) _ : StarAt _ (w.heap.size + 1 + 1) 0 (i, 0, 0, 0)).kept (by simp) hx
  have fa : FreeS w1 (w.heap.size + 1 + 1) 0 := (by simpa using freeS_new ((w.alloc _).alloc _) (i, 0, 0, 0) _ : FreeS _ (w.heap.size + 1 + 1) 0).kept (by simp) hx
  have sr : StarAt w1 (w.heap.size + 1) 0 (0, 0, 0, 0) := ((by simpa using starAt_new (w.alloc _) (0, 0, 0, 0) _ : StarAt _ (w.heap.size + 1) 0 (0, 0, 0, 0)).kept (by simp) (below1 _ _)).kept (by simp) hx
  have fr : FreeS w1 (w.heap.size + 1) 0 := ((by simpa using freeS_new (w.alloc _) (0, 0, 0, 0) _ : FreeS _ (w.heap.size + 1) 0).kept (by simp) (below1 _ _)).kept (by simp) hx
  clear hx
  obtain ⟨c0, c1, c2, c3⟩ := sa
  obtain ⟨f0, f1, f2, f3⟩ := fa
  obtain ⟨d0, d1, d2, d3⟩ := sr
  obtain ⟨g0, g1, g2, g3⟩ := fr
  simp only [Nat.zero_add] at c0 c1 c2 c3 f0 f1 f2 f3 d0 d1 d2 d3 g0 g1 g2 g3
  go_wp2_with fail
  exact bodyPost_ret (v := .agg #[.int .i64 i, .int .i64 x, .int .i64 y, .int .i64 z]) (by simp [results, Tryd.results92, go_sem, d0, d1, d2, d3]) rfl ⟨rfl, by
    repeat (refine Below.setCell ?_ (by simp; try omega) _)
    exact hB⟩
end Go.Proofs.YtnffnjljjecphaaDoor

namespace Go.Proofs.YtnffnjljjecphaaDoor
open Go

/-- As Q; by a goto to label l: J l. -/
def jumps (J : Nat → Act → World → Prop) (Q : Exit → Act → World → Prop) : Exit → Act → World → Prop
  | .goto l, a, w => J l a w
  | e, a, w => Q e a w

section
variable {P : Program} {a : Act} {w : World} {Q : Exit → Act → World → Prop}
theorem scope_labels {c : Code} (J : Nat → Act → World → Prop) (m : Nat → Act → World → Nat)
    (first : c.wp P (jumps J Q) a w)
    (pass : ∀ l a w, J l a w → ∃ rest, findLabel c l = some rest ∧ rest.wp P (jumps (fun l' a' w' => J l' a' w' ∧ m l' a' w' < m l a w) Q) a w) : (Code.scope c).wp P Q a w := by
  intro b k cs
  have key : ∀ n l a w, m l a w = n → J l a w → ∀ rest, findLabel c l = some rest → ∃ e a' w', Q e a' w' ∧ Arrives P (lone (b.at a (.code rest :: .inScope c :: k)) cs w) b k cs e a' w' := by
    intro n
    induction n using Nat.strongRecOn with
    | _ n ih =>
      intro l a w hn hJ rest hr
      obtain ⟨rest', hf, hp⟩ := pass l a w hJ
      obtain rfl : rest' = rest := Option.some.inj (hf.symm.trans hr)
      obtain ⟨e, a1, w1, hq, harr⟩ := hp b (.inScope c :: k) cs
      cases e with
      | normal => exact ⟨.normal, a1, w1, hq, Steps.trans harr (.one step_inScope)⟩
      | exit id => exact ⟨.exit id, a1, w1, hq, fun k' hk => harr k' (by simp [exitTo, hk])⟩
      | goto l' =>
        obtain ⟨hJ', hlt⟩ := hq
        obtain ⟨rest2, hf2, _⟩ := pass l' a1 w1 hJ'
        have hg : gotoIn l' (.inScope c :: k) = some (.code rest2 :: .inScope c :: k) := by simp [gotoIn, hf2]
        obtain ⟨e2, a2, w2, hq2, harr2⟩ := ih _ (by omega) l' a1 w1 rfl hJ' rest2 hf2
        exact ⟨e2, a2, w2, hq2, .of_steps (harr _ hg) harr2⟩
      | ret => exact ⟨_, a1, w1, hq, harr⟩
      | panic ch => exact ⟨_, a1, w1, hq, harr⟩
      | outgrown => exact ⟨_, a1, w1, hq, harr⟩
  obtain ⟨e, a1, w1, hq, harr⟩ := first b (.inScope c :: k) cs
  cases e with
  | normal => exact ⟨.normal, a1, w1, hq, .head step_scope (Steps.trans harr (.one step_inScope))⟩
  | exit id => exact ⟨.exit id, a1, w1, hq, fun k' hk => .head step_scope (harr k' (by simp [exitTo, hk]))⟩
  | goto l' =>
    obtain ⟨rest2, hf2, _⟩ := pass l' a1 w1 hq
    have hg : gotoIn l' (.inScope c :: k) = some (.code rest2 :: .inScope c :: k) := by simp [gotoIn, hf2]
    obtain ⟨e2, a2, w2, hq2, harr2⟩ := key _ l' a1 w1 rfl hq rest2 hf2
    exact ⟨e2, a2, w2, hq2, .of_steps (.head step_scope (harr _ hg)) harr2⟩
  | ret => exact ⟨_, a1, w1, hq, .of_steps (.one step_scope) harr⟩
  | panic ch => exact ⟨_, a1, w1, hq, .of_steps (.one step_scope) harr⟩
  | outgrown => exact ⟨_, a1, w1, hq, .of_steps (.one step_scope) harr⟩
end
end Go.Proofs.YtnffnjljjecphaaDoor

namespace Go.Proofs.YtnffnjljjecphaaDoor
open Go.RowKit

/-- 'scan s p k i u': of the number at place p, i bytes have been read, they make u, and at most k more are read: why not, or what it makes and the place behind it. -/
def scan (s : ByteArray) (p : Nat) : Nat → Nat → Nat → Except Int (Nat × Nat)
  | 0, _, _ => .error 3
  | k + 1, i, u =>
    if s.size ≤ p + i then .error 4
    else if i = 9 ∧ 1 < byteN s (p + i) then .error 3
    else if byteN s (p + i) < 128 then
      (if byteN s (p + i) = 0 ∧ 0 < i then .error 3 else .ok (u + byteN s (p + i) % 128 * 2 ^ (7 * i), p + i + 1))
    else scan s p k (i + 1) (u + byteN s (p + i) % 128 * 2 ^ (7 * i))
def unf (u : Nat) : Int := if u % 2 = 1 then -((u / 2 : Nat) : Int) - 1 else ((u / 2 : Nat) : Int)
theorem unf_range (u : Nat) (h : u < 18446744073709551616) : -9223372036854775808 ≤ unf u ∧ unf u ≤ 9223372036854775807 := by
  unfold unf; split <;> omega

theorem scan_short {s : ByteArray} {p k i u : Nat} (h : s.size ≤ p + i) : scan s p (k + 1) i u = .error 4 := by rw [scan, if_pos h]
theorem scan_wrong {s : ByteArray} {p k i u : Nat} (h : p + i < s.size) (h9 : i = 9) (hc : 1 < s[p + i].toNat) : scan s p (k + 1) i u = .error 3 := by
  rw [scan, if_neg (by omega), if_pos ⟨h9, by rw [byteN_lt h]; exact hc⟩]
theorem scan_last {s : ByteArray} {p k i u : Nat} (h : p + i < s.size) (h9 : i = 9 → s[p + i].toNat ≤ 1) (hc : s[p + i].toNat < 128) :
    scan s p (k + 1) i u = if s[p + i].toNat = 0 ∧ 0 < i then .error 3 else .ok (u + s[p + i].toNat % 128 * 2 ^ (7 * i), p + i + 1) := by
  rw [scan, if_neg (by omega), byteN_lt h, if_neg (by intro ⟨a, b⟩; have := h9 a; omega), if_pos hc]
theorem scan_more {s : ByteArray} {p k i u : Nat} (h : p + i < s.size) (h9 : i < 9) (hc : ¬ s[p + i].toNat < 128) :
    scan s p (k + 1) i u = scan s p k (i + 1) (u + s[p + i].toNat % 128 * 2 ^ (7 * i)) := by
  rw [scan, if_neg (by omega), byteN_lt h, if_neg (by omega), if_neg hc]

theorem step_lt_pow (u c i : Nat) (hu : u < 2 ^ (7 * i)) : u + c % 128 * 2 ^ (7 * i) < 2 ^ (7 * (i + 1)) := by
  have h1 : c % 128 ≤ 127 := by omega
  have h2 : c % 128 * 2 ^ (7 * i) ≤ 127 * 2 ^ (7 * i) := Nat.mul_le_mul_right _ h1
  have h3 : 2 ^ (7 * (i + 1)) = 128 * 2 ^ (7 * i) := by rw [show 7 * (i + 1) = 7 + 7 * i by omega, Nat.pow_add]
  omega
theorem pow63 {i : Nat} (h : i ≤ 9) : 2 ^ (7 * i) ≤ 9223372036854775808 := by
  have : 2 ^ (7 * i) ≤ 2 ^ 63 := Nat.pow_le_pow_right (by omega) (by omega)
  simpa using this
/-- what is put in stays below 2^64 -/
theorem step_lt64 (u c i : Nat) (hi : i ≤ 9) (hu : u < 2 ^ (7 * i)) (h9 : i = 9 → c ≤ 1) : u + c % 128 * 2 ^ (7 * i) < 18446744073709551616 := by
  by_cases h : i = 9
  · subst h
    have := h9 rfl
    have h1 : c % 128 ≤ 1 := by omega
    have h2 : c % 128 * 2 ^ (7 * 9) ≤ 1 * 2 ^ (7 * 9) := Nat.mul_le_mul_right _ h1
    have : (2 : Nat) ^ (7 * 9) = 9223372036854775808 := by decide
    omega
  · have h1 := step_lt_pow u c i hu
    have h2 : 2 ^ (7 * (i + 1)) ≤ 2 ^ 63 := Nat.pow_le_pow_right (by omega) (by omega)
    have : (2 : Nat) ^ 63 = 9223372036854775808 := by decide
    omega
theorem wrap_u64 (m : Int) : IntKind.u64.wrap m = m % 18446744073709551616 := by simp [IntKind.wrap, IntKind.bits, IntKind.signed]
theorem orShift (u c i : Nat) (hi : i ≤ 9) (hu : u < 2 ^ (7 * i)) (hc : c < 256) (h9 : i = 9 → c ≤ 1) :
    bits .or .u64 (u : Int) (IntKind.u64.wrap (IntKind.u64.wrap (bits .and .u8 (c : Int) 127) * 2 ^ (7 * i))) = ((u + c % 128 * 2 ^ (7 * i) : Nat) : Int) := by
  have hb := step_lt64 u c i hi hu h9
  have ha : bits .and .u8 (c : Int) 127 = ((c % 128 : Nat) : Int) := by
    have h := u8_and_nat c 127 hc (by omega)
    rw [nat_mask7] at h
    exact h
  have hw1 : IntKind.u64.wrap ((c % 128 : Nat) : Int) = ((c % 128 : Nat) : Int) := by rw [wrap_u64]; omega
  have hp : ((c % 128 : Nat) : Int) * 2 ^ (7 * i) = ((c % 128 * 2 ^ (7 * i) : Nat) : Int) := by push_cast; rfl
  rw [ha, hw1, hp]
  have hlt : c % 128 * 2 ^ (7 * i) < 18446744073709551616 := by omega
  have hw2 : IntKind.u64.wrap ((c % 128 * 2 ^ (7 * i) : Nat) : Int) = ((c % 128 * 2 ^ (7 * i) : Nat) : Int) := by
    rw [wrap_u64]; generalize c % 128 * 2 ^ (7 * i) = x at *; omega
  rw [hw2, u64_or_nat _ _ (by omega) hlt, Nat.or_comm, nat_join (7 * i) _ _ (by simp) hu, Nat.add_comm]
theorem orShift0 (c : Nat) (hc : c < 256) : bits .or .u64 0 (IntKind.u64.wrap (IntKind.u64.wrap (bits .and .u8 (c : Int) 127))) = ((c % 128 : Nat) : Int) := by
  have h := orShift 0 c 0 (by omega) (by simp) hc (by omega)
  simpa using h
theorem orShift9 (u c : Nat) (hu : u < 2 ^ (7 * 9)) (hc : c < 256) (h9 : c ≤ 1) :
    bits .or .u64 (u : Int) (IntKind.u64.wrap (IntKind.u64.wrap (bits .and .u8 (c : Int) 127) * 9223372036854775808)) = ((u + c % 128 * 2 ^ (7 * 9) : Nat) : Int) := by
  have h := orShift u c 9 (by omega) hu hc (fun _ => h9)
  rw [show ((2 : Int) ^ (7 * 9)) = 9223372036854775808 by decide] at h
  exact h
end Go.Proofs.YtnffnjljjecphaaDoor

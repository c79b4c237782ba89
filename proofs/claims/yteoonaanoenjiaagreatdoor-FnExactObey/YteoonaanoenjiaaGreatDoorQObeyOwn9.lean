/- Several texts in one: SkyE, TsA, MaB, ObA. -/
import Derived.OwnWalk
import Derived.Laws.OwnMore
import Derived.Test.YteoonaanoenjiaaGreatDoorQObeyOwn7
import Derived.Test.YteoonaanoenjiaaGreatDoorQObeyOwn8
import Derived.Test.YteoonaanoenjiaaGreatDoorQObeyOwn1
import Derived.Test.YteoonaanoenjiaaGreatDoorQObeyOwn6
namespace Go.Proofs.YteoonaanoenjiaaGreatDoor
open Go.RowKit Go.Sort
set_option linter.unusedVariables false
theorem eqB_comm (a1 a2 a3 b1 b2 b3 : Int) : eqB a1 a2 a3 b1 b2 b3 = eqI b1 b2 b3 a1 a2 a3 := by
  unfold eqB eqI
  congr 1
  apply propext
  constructor <;> rintro ⟨h1, h2, h3⟩ <;> exact ⟨h1.symm, h2.symm, h3.symm⟩
theorem okAt_no1 {L : List St} {i : Nat} {s1 s2 s3 s4 : Int} (hs : stA L i = (s1, s2, s3, s4)) (h : idB s1 = false) : okAt L i = false := by unfold okAt; rw [hs]; simp [h]
theorem okAt_no2 {L : List St} {i : Nat} (h : upB L i = false) : okAt L i = false := by unfold okAt; simp [h]
theorem okAt_no3 {L : List St} {i : Nat} {s1 s2 s3 s4 : Int} (hs : stA L i = (s1, s2, s3, s4)) (h : smallB s2 s3 s4 = false) : okAt L i = false := by unfold okAt; rw [hs]; simp [h]
theorem okAt_no4 {L : List St} {i : Nat} {s1 s2 s3 s4 : Int} (hs : stA L i = (s1, s2, s3, s4)) (h : primeB s2 s3 s4 = false) : okAt L i = false := by unfold okAt; rw [hs]; simp [h]
theorem okAt_no5 {L : List St} {i : Nat} (h : takenB L (stA L i) i = true) : okAt L i = false := by unfold okAt; simp [h]
theorem okAt_yes {L : List St} {i : Nat} {s1 s2 s3 s4 : Int} (hs : stA L i = (s1, s2, s3, s4)) (h1 : idB s1 = true) (h2 : upB L i = true) (h3 : smallB s2 s3 s4 = true) (h4 : primeB s2 s3 s4 = true) (h5 : takenB L (stA L i) i = false) : okAt L i = true := by
  unfold okAt
  rw [h5, h2, hs]
  simp [h1, h3, h4]
set_option maxHeartbeats 8000000 in
set_option maxRecDepth 100000 in
theorem specSky_any (L : List St) (a : Option Addr) (c : Nat) (w : World) (hn : L.length ≤ 1048576) (hS : Stars w a L L.length) :
    Calls Tryz.prog 56 #[.slice a L.length c] w fun e w' => e = .returned (.bool (skyB L)) ∧ Below w.heap.size w w' := by
  obtain ⟨n, hnl⟩ : ∃ n, L.length = n := ⟨_, rfl⟩
  rw [hnl] at hn hS ⊢
  have HL := yz hnl
  clear hnl
  by_cases h12 : 12 < n
  · have h12' : (12 : Int) < (n : Int) := by omega
    have HO : Hid (skyB L = false) := yz (sky_long (by rw [yx HL]; exact h12))
    clear hS
    go_enter Tryz.func56, Tryz.ntmps56
    go_wp2
    go_ret
    exact ⟨by rw [yx HO]; rfl, Below.refl _ _⟩
  have h12' : ¬ (12 : Int) < (n : Int) := by omega
  rcases hS with rfl | ⟨b, o, rfl, hb, hc⟩
  · have HO : Hid (skyB L = true) := yz (sky_yes (by rw [yx HL]; omega) (by rw [yx HL]; intro j hj; omega))
    go_enter Tryz.func56, Tryz.ntmps56
    go_wp2_with fail
    refine wp_loop_rounds 1 ?_
    rw [rounds_succ]
    go_wp2_with fail
    go_ret
    exact ⟨by rw [yx HO]; rfl, Below.refl _ _⟩
  have HC := yz hc
  clear hc
  go_enter Tryz.func56, Tryz.ntmps56
  go_wp2_with fail
  go_loopw [3] (fun i wr => ∃ k : Nat, k ≤ n ∧ i = .int .i64 k ∧ Hid (okTo L k) ∧ Hid (Below w.heap.size w wr)) (fun i _ => n - (intOf i).toNat)
  case atStart => exact ⟨0, by omega, rfl, yz (fun j hj => absurd hj (Nat.not_lt_zero _)), yz (Below.refl _ _)⟩
  case round =>
    obtain ⟨k, hk, rfl, HF, HB⟩ := hrel
    by_cases hkn : k < n
    · obtain ⟨⟨s1, s2, s3, s4⟩, hs⟩ : ∃ s, stA L k = s := ⟨_, rfl⟩
      have hst := ((yx HC) k hkn).kept hb (yx HB)
      rw [hs] at hst
      obtain ⟨c0, c1, c2, c3⟩ := hst
      have HT := yz hs
      clear hs
      have hkn2 : (k : Int) < (n : Int) := by omega
      have B1 := yz ((yx HB).alloc (yx HB).size (.cells #[.int .i64 s2, .int .i64 s3, .int .i64 s4] 111))
      have N1 := yz (vecAt_new wr s2 s3 s4 111)
      rcases Nat.eq_zero_or_pos k with hk0 | hk0
      · subst hk0
        go_wp2_with fail
        clear c0 c1 c2 c3
        have hb1 := yx B1
        have hn1 := yx N1
        generalize hwe : wr.alloc (.cells #[.int .i64 s2, .int .i64 s3, .int .i64 s4] 111) = W1 at hb1 hn1 ⊢
        generalize hwb : wr.heap.size = vb at hn1 ⊢
        have HB1 := yz hb1
        have HN1 := yz hn1
        clear hwe hwb hb1 hn1 B1 N1 HB
        obtain ⟨v0, v1, v2⟩ := yx HN1
        have r0 := cell_regrown v0
        have r1 := cell_regrown v1
        have r2 := cell_regrown v2
        clear v0 v1 v2
        have hst := ((yx HC) (0) hkn).kept hb (yx HB1)
        rw [yx HT] at hst
        have hst1 := hst.1
        simp only [Nat.zero_mul, Nat.add_zero] at hst1
        have q0 := cell_regrown hst1
        clear hst hst1
        have cI : Hid (∀ W : World, Calls Tryz.prog 57 #[.int .i64 s1, .int .i64 1, .int .i64 9999] W fun e w' => e = .returned (.bool (idB s1)) ∧ Below W.heap.size W w') := yz (fun W => (l02Is_any s1 1 9999 W).mono fun e w' h => ⟨h.1, by rw [h.2]; exact Below.refl _ _⟩)
        have cR := yz (fun W => specRight_any s2 s3 s4 W)
        have cW := yz (fun W => l02Within_any 10 s2 s3 s4 W (by omega) (by omega))
        cases hid : idB s1
        · have HO : Hid (skyB L = false) := yz (sky_no (k := 0) (by rw [yx HL]; exact hkn) (okAt_no1 (yx HT) hid))
          rw [hid] at cI
          refine wp_region_quiet_below (by kernel_rfl) (by kernel_rfl) ?_
          repeat (go_big_quiet_step (first | (with_reducible exact Calls.regrown_of (yx cI _))))
          refine wpQuiet_nil ?_
          intro _ hw'
          obtain ⟨⟨dq, osq⟩, hw''⟩ := hw'
          subst hw''
          have hx := below_call (yx HB1) (below_regrown W1 dq osq)
          go_wp2_with fail
          go_ret
          exact ⟨by rw [yx HO]; rfl, hx⟩
        · rw [hid] at cI
          have HU : Hid (upB L 0 = true) := yz rfl
          cases hr : rightB s2 s3 s4
          · have HO : Hid (skyB L = false) := yz (sky_no (k := 0) (by rw [yx HL]; exact hkn) (okAt_no3 (yx HT) (by unfold smallB; rw [hr]; rfl)))
            rw [hr] at cR
            refine wp_region_quiet_below (by kernel_rfl) (by kernel_rfl) ?_
            repeat (go_big_quiet_step (first | (with_reducible exact Calls.regrown_of (yx cI _)) | (with_reducible exact Calls.regrown_of (yx cR _))))
            refine wpQuiet_nil ?_
            intro _ hw'
            obtain ⟨⟨dq, osq⟩, hw''⟩ := hw'
            subst hw''
            have hx := below_call (yx HB1) (below_regrown W1 dq osq)
            go_wp2_with fail
            go_ret
            exact ⟨by rw [yx HO]; rfl, hx⟩
          · rw [hr] at cR
            have cP := yz (fun W => l02Prime_any s2 s3 s4 W hr)
            cases hwi : withinB 10 s2 s3 s4
            · have HO : Hid (skyB L = false) := yz (sky_no (k := 0) (by rw [yx HL]; exact hkn) (okAt_no3 (yx HT) (by unfold smallB; rw [hwi]; simp)))
              rw [hwi] at cW
              refine wp_region_quiet_below (by kernel_rfl) (by kernel_rfl) ?_
              repeat (go_big_quiet_step (first | (with_reducible exact Calls.regrown_of (yx cI _)) | (with_reducible exact Calls.regrown_of (yx cR _)) | (with_reducible exact Calls.regrown_of (yx cW _))))
              refine wpQuiet_nil ?_
              intro _ hw'
              obtain ⟨⟨dq, osq⟩, hw''⟩ := hw'
              subst hw''
              have hx := below_call (yx HB1) (below_regrown W1 dq osq)
              go_wp2_with fail
              go_ret
              exact ⟨by rw [yx HO]; rfl, hx⟩
            · rw [hwi] at cW
              have hq := fun W => neq_vec (wrap64 (s2.tdiv (gI s2 s3 s4))) (wrap64 (s3.tdiv (gI s2 s3 s4))) (wrap64 (s4.tdiv (gI s2 s3 s4))) s2 s3 s4 W
              have hq2 : eqB (wrap64 (s2.tdiv (gI s2 s3 s4))) (wrap64 (s3.tdiv (gI s2 s3 s4))) (wrap64 (s4.tdiv (gI s2 s3 s4))) s2 s3 s4 = primeB s2 s3 s4 := by rw [eqB_comm]; unfold primeB prI; rw [hr]; rfl
              rw [hq2] at hq
              clear hq2
              generalize wrap64 (s2.tdiv (gI s2 s3 s4)) = t2 at cP hq
              generalize wrap64 (s3.tdiv (gI s2 s3 s4)) = t3 at cP hq
              generalize wrap64 (s4.tdiv (gI s2 s3 s4)) = t4 at cP hq
              cases hpr : primeB s2 s3 s4
              · have HO : Hid (skyB L = false) := yz (sky_no (k := 0) (by rw [yx HL]; exact hkn) (okAt_no4 (yx HT) hpr))
                rw [hpr] at hq
                refine wp_region_quiet_below (by kernel_rfl) (by kernel_rfl) ?_
                repeat (go_big_quiet_step (first | (with_reducible exact Calls.regrown_of (yx cI _)) | (with_reducible exact Calls.regrown_of (yx cR _)) | (with_reducible exact Calls.regrown_of (yx cW _)) | (with_reducible exact Calls.regrown_of (yx cP _))))
                refine wpQuiet_nil ?_
                intro _ hw'
                obtain ⟨⟨dq, osq⟩, hw''⟩ := hw'
                subst hw''
                have hx := below_call (yx HB1) (below_regrown W1 dq osq)
                go_wp2_with fail
                go_ret
                exact ⟨by rw [yx HO]; rfl, hx⟩
              · rw [hpr] at hq
                have HM : Hid (smallB s2 s3 s4 = true) := yz (by unfold smallB; rw [hr, hwi]; rfl)
                have HI := yz hid
                have HPR := yz hpr
                refine wp_region_quiet_below (by kernel_rfl) (by kernel_rfl) ?_
                repeat (go_big_quiet_step (first | (with_reducible exact Calls.regrown_of (yx cI _)) | (with_reducible exact Calls.regrown_of (yx cR _)) | (with_reducible exact Calls.regrown_of (yx cW _)) | (with_reducible exact Calls.regrown_of (yx cP _))))
                refine wpQuiet_nil ?_
                intro _ hw'
                obtain ⟨⟨dq, osq⟩, hw''⟩ := hw'
                subst hw''
                have hx := below_regrown W1 dq osq
                have hb2 := below_call (yx HB1) hx
                have hn2 := (yx HN1).kept (vlt (yx HN1)) hx
                generalize grow (redrawn W1 dq) osq = W2 at hb2 hn2 hx ⊢
                have HB2 := yz hb2
                have HN2 := yz hn2
                clear hx hb2 hn2 r0 r1 r2 q0 hq cI cR cW cP hid hpr hwi hr HB1 HN1
                go_wp2_with fail
                go_loopw [5] (fun i wr => ∃ m : Nat, m ≤ 0 ∧ i = .int .i64 m ∧ Hid (freeTo L (stA L (0)) m) ∧ Hid (Below w.heap.size w wr) ∧ Hid (VecAt wr vb s2 s3 s4)) (fun i _ => (0) - (intOf i).toNat)
                case atStart => exact ⟨0, by omega, rfl, yz (fun j hj => absurd hj (Nat.not_lt_zero _)), HB2, HN2⟩
                case round =>
                  obtain ⟨m, hm, rfl, HE, HB3, HN3⟩ := hrel
                  by_cases hmk : m < 0
                  · omega
                  · have hmk' : m = 0 := by omega
                    subst hmk'
                    have HF2 := yz (ok_step (yx HF) (okAt_yes (yx HT) (yx HI) (yx HU) (yx HM) (yx HPR) (taken_no (yx HE))))
                    go_wp2_with fail
                    go_roundw
                    case rel => exact ⟨0 + 1, by omega, by go_num, HF2, HB3⟩
                    case measure => simp [intOf]; omega
      · obtain ⟨j, hkj⟩ : ∃ j, k = j + 1 := ⟨k - 1, by omega⟩
        have HK : Hid (k - 1 = j) := yz (by omega)
        have HKJ := yz hkj
        have hjk : j < k := by omega
        clear hkj
        obtain ⟨⟨p1, p2, p3, p4⟩, hp⟩ : ∃ s, stA L j = s := ⟨_, rfl⟩
        have HP := yz hp
        clear hp
        go_wp2_with fail
        clear c0 c1 c2 c3
        have hb1 := yx B1
        have hn1 := yx N1
        generalize hwe : wr.alloc (.cells #[.int .i64 s2, .int .i64 s3, .int .i64 s4] 111) = W1 at hb1 hn1 ⊢
        generalize hwb : wr.heap.size = vb at hn1 ⊢
        have HB1 := yz hb1
        have HN1 := yz hn1
        clear hwe hwb hb1 hn1 B1 N1 HB
        obtain ⟨v0, v1, v2⟩ := yx HN1
        have r0 := cell_regrown v0
        have r1 := cell_regrown v1
        have r2 := cell_regrown v2
        clear v0 v1 v2
        have hst := ((yx HC) (k) hkn).kept hb (yx HB1)
        rw [yx HT] at hst
        have q0 := cell_regrown hst.1
        clear hst
        have hst := ((yx HC) j (by omega)).kept hb (yx HB1)
        rw [yx HP] at hst
        have q1 := cell_regrown hst.1
        clear hst
        have hj1 : (k : Int) - 1 = (j : Int) := by have := yx HKJ; omega
        have hj2 : (0 : Int) < (k : Int) := by omega
        have hj3 : (j : Int) < (n : Int) := by omega
        have cI : Hid (∀ W : World, Calls Tryz.prog 57 #[.int .i64 s1, .int .i64 1, .int .i64 9999] W fun e w' => e = .returned (.bool (idB s1)) ∧ Below W.heap.size W w') := yz (fun W => (l02Is_any s1 1 9999 W).mono fun e w' h => ⟨h.1, by rw [h.2]; exact Below.refl _ _⟩)
        have cR := yz (fun W => specRight_any s2 s3 s4 W)
        have cW := yz (fun W => l02Within_any 10 s2 s3 s4 W (by omega) (by omega))
        cases hid : idB s1
        · have HO : Hid (skyB L = false) := yz (sky_no (k := k) (by rw [yx HL]; exact hkn) (okAt_no1 (yx HT) hid))
          rw [hid] at cI
          refine wp_region_quiet_below (by kernel_rfl) (by kernel_rfl) ?_
          repeat (go_big_quiet_step (first | (with_reducible exact Calls.regrown_of (yx cI _))))
          refine wpQuiet_nil ?_
          intro _ hw'
          obtain ⟨⟨dq, osq⟩, hw''⟩ := hw'
          subst hw''
          have hx := below_call (yx HB1) (below_regrown W1 dq osq)
          go_wp2_with fail
          go_ret
          exact ⟨by rw [yx HO]; rfl, hx⟩
        · rw [hid] at cI
          by_cases hup : s1 ≤ p1
          · have HO : Hid (skyB L = false) := yz (sky_no (k := k) (by rw [yx HL]; exact hkn) (okAt_no2 (by unfold upB; rw [yx HK, yx HT]; simp [yx HP]; omega)))
            refine wp_region_quiet_below (by kernel_rfl) (by kernel_rfl) ?_
            repeat (go_big_quiet_step (first | (with_reducible exact Calls.regrown_of (yx cI _))))
            refine wpQuiet_nil ?_
            intro _ hw'
            obtain ⟨⟨dq, osq⟩, hw''⟩ := hw'
            subst hw''
            have hx := below_call (yx HB1) (below_regrown W1 dq osq)
            go_wp2_with fail
            go_ret
            exact ⟨by rw [yx HO]; rfl, hx⟩
          have HU : Hid (upB L k = true) := yz (by unfold upB; rw [yx HK, yx HT]; simp [yx HP]; omega)
          have hup2 : decide (s1 ≤ p1) = false := by simp; omega
          clear hup
          cases hr : rightB s2 s3 s4
          · have HO : Hid (skyB L = false) := yz (sky_no (k := k) (by rw [yx HL]; exact hkn) (okAt_no3 (yx HT) (by unfold smallB; rw [hr]; rfl)))
            rw [hr] at cR
            refine wp_region_quiet_below (by kernel_rfl) (by kernel_rfl) ?_
            repeat (go_big_quiet_step (first | (with_reducible exact Calls.regrown_of (yx cI _)) | (with_reducible exact Calls.regrown_of (yx cR _))))
            refine wpQuiet_nil ?_
            intro _ hw'
            obtain ⟨⟨dq, osq⟩, hw''⟩ := hw'
            subst hw''
            have hx := below_call (yx HB1) (below_regrown W1 dq osq)
            go_wp2_with fail
            go_ret
            exact ⟨by rw [yx HO]; rfl, hx⟩
          · rw [hr] at cR
            have cP := yz (fun W => l02Prime_any s2 s3 s4 W hr)
            cases hwi : withinB 10 s2 s3 s4
            · have HO : Hid (skyB L = false) := yz (sky_no (k := k) (by rw [yx HL]; exact hkn) (okAt_no3 (yx HT) (by unfold smallB; rw [hwi]; simp)))
              rw [hwi] at cW
              refine wp_region_quiet_below (by kernel_rfl) (by kernel_rfl) ?_
              repeat (go_big_quiet_step (first | (with_reducible exact Calls.regrown_of (yx cI _)) | (with_reducible exact Calls.regrown_of (yx cR _)) | (with_reducible exact Calls.regrown_of (yx cW _))))
              refine wpQuiet_nil ?_
              intro _ hw'
              obtain ⟨⟨dq, osq⟩, hw''⟩ := hw'
              subst hw''
              have hx := below_call (yx HB1) (below_regrown W1 dq osq)
              go_wp2_with fail
              go_ret
              exact ⟨by rw [yx HO]; rfl, hx⟩
            · rw [hwi] at cW
              have hq := fun W => neq_vec (wrap64 (s2.tdiv (gI s2 s3 s4))) (wrap64 (s3.tdiv (gI s2 s3 s4))) (wrap64 (s4.tdiv (gI s2 s3 s4))) s2 s3 s4 W
              have hq2 : eqB (wrap64 (s2.tdiv (gI s2 s3 s4))) (wrap64 (s3.tdiv (gI s2 s3 s4))) (wrap64 (s4.tdiv (gI s2 s3 s4))) s2 s3 s4 = primeB s2 s3 s4 := by rw [eqB_comm]; unfold primeB prI; rw [hr]; rfl
              rw [hq2] at hq
              clear hq2
              generalize wrap64 (s2.tdiv (gI s2 s3 s4)) = t2 at cP hq
              generalize wrap64 (s3.tdiv (gI s2 s3 s4)) = t3 at cP hq
              generalize wrap64 (s4.tdiv (gI s2 s3 s4)) = t4 at cP hq
              cases hpr : primeB s2 s3 s4
              · have HO : Hid (skyB L = false) := yz (sky_no (k := k) (by rw [yx HL]; exact hkn) (okAt_no4 (yx HT) hpr))
                rw [hpr] at hq
                refine wp_region_quiet_below (by kernel_rfl) (by kernel_rfl) ?_
                repeat (go_big_quiet_step (first | (with_reducible exact Calls.regrown_of (yx cI _)) | (with_reducible exact Calls.regrown_of (yx cR _)) | (with_reducible exact Calls.regrown_of (yx cW _)) | (with_reducible exact Calls.regrown_of (yx cP _))))
                refine wpQuiet_nil ?_
                intro _ hw'
                obtain ⟨⟨dq, osq⟩, hw''⟩ := hw'
                subst hw''
                have hx := below_call (yx HB1) (below_regrown W1 dq osq)
                go_wp2_with fail
                go_ret
                exact ⟨by rw [yx HO]; rfl, hx⟩
              · rw [hpr] at hq
                have HM : Hid (smallB s2 s3 s4 = true) := yz (by unfold smallB; rw [hr, hwi]; rfl)
                have HI := yz hid
                have HPR := yz hpr
                refine wp_region_quiet_below (by kernel_rfl) (by kernel_rfl) ?_
                repeat (go_big_quiet_step (first | (with_reducible exact Calls.regrown_of (yx cI _)) | (with_reducible exact Calls.regrown_of (yx cR _)) | (with_reducible exact Calls.regrown_of (yx cW _)) | (with_reducible exact Calls.regrown_of (yx cP _))))
                refine wpQuiet_nil ?_
                intro _ hw'
                obtain ⟨⟨dq, osq⟩, hw''⟩ := hw'
                subst hw''
                have hx := below_regrown W1 dq osq
                have hb2 := below_call (yx HB1) hx
                have hn2 := (yx HN1).kept (vlt (yx HN1)) hx
                generalize grow (redrawn W1 dq) osq = W2 at hb2 hn2 hx ⊢
                have HB2 := yz hb2
                have HN2 := yz hn2
                clear hx hb2 hn2 r0 r1 r2 q0 hq cI cR cW cP hid hpr hwi hr HB1 HN1 q1 hup2
                go_wp2_with fail
                go_loopw [5] (fun i wr => ∃ m : Nat, m ≤ k ∧ i = .int .i64 m ∧ Hid (freeTo L (stA L (k)) m) ∧ Hid (Below w.heap.size w wr) ∧ Hid (VecAt wr vb s2 s3 s4)) (fun i _ => (k) - (intOf i).toNat)
                case atStart => exact ⟨0, by omega, rfl, yz (fun j hj => absurd hj (Nat.not_lt_zero _)), HB2, HN2⟩
                case round =>
                  obtain ⟨m, hm, rfl, HE, HB3, HN3⟩ := hrel
                  by_cases hmk : m < k
                  · obtain ⟨⟨t1, t2, t3, t4⟩, ht⟩ : ∃ s, stA L m = s := ⟨_, rfl⟩
                    have hst := ((yx HC) m (by omega)).kept hb (yx HB3)
                    rw [ht] at hst
                    have hmn : (m : Int) < (n : Int) := by omega
                    have hmj : (m : Int) < (k : Int) := by omega
                    obtain ⟨_, g1, g2, g3⟩ := hst
                    have k1 := cell_regrown g1
                    have k2 := cell_regrown g2
                    have k3 := cell_regrown g3
                    clear g1 g2 g3
                    obtain ⟨v0, v1, v2⟩ := yx HN3
                    have r0 := cell_regrown v0
                    have r1 := cell_regrown v1
                    have r2 := cell_regrown v2
                    clear v0 v1 v2
                    have HQ : Hid (sameS (stA L k) (stA L m) = (eqB (crW t3 t4 s3 s4) (crW t4 t2 s4 s2) (crW t2 t3 s2 s3) 0 0 0 && decide (0 < dotW t2 t3 t4 s2 s3 s4))) := yz (by
                      have hsm := ok_small ((yx HF) m (by omega))
                      rw [ht] at hsm
                      have e := same_eq hsm (yx HM)
                      rw [sameB_comm hsm (yx HM)] at e
                      rw [ht, yx HT]
                      exact e.symm)
                    have cE := yz (fun W => l02Same_any t2 t3 t4 s2 s3 s4 W)
                    generalize (eqB (crW t3 t4 s3 s4) (crW t4 t2 s4 s2) (crW t2 t3 s2 s3) 0 0 0 && decide (0 < dotW t2 t3 t4 s2 s3 s4)) = y at HQ cE
                    clear ht
                    go_wp2_with fail
                    refine wp_region_quiet_below (by kernel_rfl) (by kernel_rfl) ?_
                    repeat (go_big_quiet_step (first | (with_reducible exact Calls.regrown_of (yx cE _))))
                    refine wpQuiet_nil ?_
                    intro _ hw'
                    obtain ⟨⟨dq, osq⟩, hw''⟩ := hw'
                    subst hw''
                    have hx := below_regrown wr dq osq
                    have hb4 := below_call (yx HB3) hx
                    have hn4 := (yx HN3).kept (vlt (yx HN3)) hx
                    generalize grow (redrawn wr dq) osq = W4 at hx hb4 hn4 ⊢
                    have HB4 := yz hb4
                    have HN4 := yz hn4
                    clear hx hb4 hn4 r0 r1 r2 k1 k2 k3 cE HB3 HN3
                    cases y
                    · go_wp2_with fail
                      go_roundw
                      case rel => exact ⟨m + 1, by omega, by go_num, yz (free_step (yx HE) (yx HQ)), HB4, HN4⟩
                      case measure => simp [intOf]; omega
                    · have HO : Hid (skyB L = false) := yz (sky_no (k := k) (by rw [yx HL]; exact hkn) (okAt_no5 (taken_yes hmk (yx HQ))))
                      go_wp2_with fail
                      go_ret
                      exact ⟨by rw [yx HO]; rfl, yx HB4⟩
                  · have hmk' : m = k := by omega
                    subst hmk'
                    have HF2 := yz (ok_step (yx HF) (okAt_yes (yx HT) (yx HI) (yx HU) (yx HM) (yx HPR) (taken_no (yx HE))))
                    go_wp2_with fail
                    go_roundw
                    case rel => exact ⟨m + 1, by omega, by go_num, HF2, HB3⟩
                    case measure => simp [intOf]; omega
    · have hkn' : k = n := by omega
      subst hkn'
      have HO := yz (sky_yes (L := L) (by rw [yx HL]; omega) (by rw [yx HL]; exact yx HF))
      go_wp2_with fail
      go_ret
      exact ⟨by rw [yx HO]; rfl, yx HB⟩
theorem oKept {w w' : World} {B : Nat} {t : TypeId} {v : Value} {n m : Nat} {xs : List Value} (h : w.ownsRow B t m v n xs) (hB : Below w.heap.size w w') : w'.ownsRow B t m v n xs :=
  h.kept (row := none) ⟨hB.os, hB.tape, hB.output, hB.size, fun k hk _ => hB.block k hk⟩ (by cases hv : v.ownBlock <;> simp)
theorem oSlice {w : World} {B : Nat} {t : TypeId} {v : Value} {n m : Nat} {xs : List Value} (h : w.ownsRow B t m v n xs) : ∃ a c, v = .slice a n c := by
  rcases h.2 with ⟨h1, h0⟩ | ⟨g, cap, cur, hv, _⟩
  · exact ⟨none, 0, by rw [h1, h0]⟩
  · exact ⟨_, _, hv⟩
theorem oBelow {B : Nat} {w w1 w2 : World} {v : Value} {t : TypeId} {n m : Nat} {xs : List Value} (h : Below B w w1) (ho : w1.ownsRow B t m v n xs) (hg : w1.grownBy w2 v.ownBlock) (hB : B ≤ w1.heap.size) : Below B w w2 :=
  h.trans ⟨hg.os, hg.tape, hg.output, hg.size, fun k hk => hg.block k (by omega) (fun e => by have := (ho.lt k e.symm).1; omega)⟩
theorem new_cells (w : World) (vs : List Value) (t : TypeId) : ∀ (j : Nat) (u : Value), vs[j]? = some u → (w.alloc (.cells vs.toArray t)).cell? ((⟨w.heap.size, 0, none⟩ : Addr).add j) = some u := by
  intro j u hj
  have e : (⟨w.heap.size, 0, none⟩ : Addr).add j = ⟨w.heap.size, j, none⟩ := by cases j <;> simp [Addr.add]
  rw [e]
  simp [hj]
abbrev T4 := Int × Int × Int × Int
theorem info_turn : (Tryz.prog.info? 35).map (fun i => (i.zero, i.size, i.bytes)) = some (some (.agg #[.int .i64 0, .int .i64 0, .int .i64 0, .int .i64 0]), 4, 32) := by kernel_rfl
def turn4 (t : T4) : List Value := [.int .i64 t.1, .int .i64 t.2.1, .int .i64 t.2.2.1, .int .i64 t.2.2.2]
def flatT (S : List T4) : List Value := S.flatMap turn4
theorem flatT_app (A B : List T4) : flatT (A ++ B) = flatT A ++ flatT B := by unfold flatT; rw [List.flatMap_append]
theorem flatT_cell {S : List T4} {v : Value} (h : v ∈ flatT S) : v.oneCell' = true := by
  unfold flatT at h
  rw [List.mem_flatMap] at h
  obtain ⟨p, _, hp⟩ := h
  simp [turn4] at hp
  rcases hp with rfl | rfl | rfl | rfl <;> rfl
def tOf (n : Nat) : T4 := ((n : Int) / 125 - 2, (n : Int) / 25 % 5 - 2, (n : Int) / 5 % 5 - 2, (n : Int) % 5 - 2)
def goodT (t : T4) : Bool := rightT t.1 t.2.1 t.2.2.1 t.2.2.2
def turnsTo (k : Nat) : List T4 := ((List.range k).map tOf).filter goodT
theorem turns_len (k : Nat) : (turnsTo k).length ≤ k := by
  have h := List.length_filter_le goodT ((List.range k).map tOf)
  rw [List.length_map, List.length_range] at h
  exact h
theorem turns_snoc (k : Nat) : turnsTo (k + 1) = turnsTo k ++ (if goodT (tOf k) = true then [tOf k] else []) := by
  unfold turnsTo
  rw [List.range_succ, List.map_append, List.filter_append]
  congr 1
  cases h : goodT (tOf k)
  · rw [List.map_singleton, List.filter_cons_of_neg (by simp [h])]; rfl
  · rw [List.map_singleton, List.filter_cons_of_pos h]; rfl
theorem tOf_at (a b c d : Nat) (hb : b < 5) (hc : c < 5) (hd : d < 5) : tOf (a * 125 + b * 25 + c * 5 + d) = ((a : Int) - 2, (b : Int) - 2, (c : Int) - 2, (d : Int) - 2) := by
  unfold tOf
  have e1 : ((a * 125 + b * 25 + c * 5 + d : Nat) : Int) / 125 = a := by omega
  have e2 : ((a * 125 + b * 25 + c * 5 + d : Nat) : Int) / 25 % 5 = b := by omega
  have e3 : ((a * 125 + b * 25 + c * 5 + d : Nat) : Int) / 5 % 5 = c := by omega
  have e4 : ((a * 125 + b * 25 + c * 5 + d : Nat) : Int) % 5 = d := by omega
  rw [e1, e2, e3, e4]
theorem ownT_none (w : World) (B : Nat) (h : B ≤ w.heap.size) : (w.alloc (.cells #[] 35)).ownsRow B 35 4 (.slice (some ⟨w.heap.size, 0, none⟩) 0 0) 0 (flatT []) :=
  ⟨rfl, .inr ⟨_, 0, #[], rfl, h, Array.getElem?_push_size, Nat.le_refl _, Nat.zero_le _, rfl, rfl⟩⟩
set_option maxHeartbeats 4000000 in
set_option maxRecDepth 100000 in
theorem implTurns_any (w : World) :
    Calls Tryz.prog 205 #[] w fun e w' => (∃ v, e = .returned v ∧ w'.ownsRow w.heap.size 35 4 v (turnsTo 625).length (flatT (turnsTo 625))) ∧ Below w.heap.size w w' := by
  obtain ⟨i0, hinf, hz0, hz1, hz2⟩ := info_parts info_turn
  have hm8 : 1000 ≤ maxLen := by decide +kernel
  go_enter Tryz.func205, Tryz.ntmps205
  go_wp2_with fail
  go_loopw [1, 4] (fun v kk wr => ∃ k : Nat, k ≤ 625 ∧ kk = .int .i64 k ∧ Hid (wr.ownsRow w.heap.size 35 4 v (turnsTo k).length (flatT (turnsTo k))) ∧ Hid (Below w.heap.size w wr)) (fun _ kk _ => 625 - (intOf kk).toNat)
  case atStart => exact ⟨0, by omega, rfl, yz (World.ownsRow_nil _ _ _ _), yz (Below.refl _ _)⟩
  case round =>
    obtain ⟨k, hk, rfl, HO, HB⟩ := hrel
    by_cases hkn : k < 625
    · have hkn2 : (k : Int) < 625 := by omega
      have HSN : Hid (turnsTo (k + 1) = turnsTo k ++ (if goodT ((k : Int) / 125 - 2, (k : Int) / 25 % 5 - 2, (k : Int) / 5 % 5 - 2, (k : Int) % 5 - 2) = true then [((k : Int) / 125 - 2, (k : Int) / 25 % 5 - 2, (k : Int) / 5 % 5 - 2, (k : Int) % 5 - 2)] else [])) := yz (turns_snoc k)
      have hpl := turns_len k
      have Z := below1 wr (.cells #[.int .i64 ((k : Int) / 125 - 2), .int .i64 ((k : Int) / 25 % 5 - 2), .int .i64 ((k : Int) / 5 % 5 - 2), .int .i64 ((k : Int) % 5 - 2)] 35)
      have HB1 := yz (below_call (yx HB) Z)
      have HO1 := yz (oKept (yx HO) Z)
      have TA1 := turnAt_new wr ((k : Int) / 125 - 2) ((k : Int) / 25 % 5 - 2) ((k : Int) / 5 % 5 - 2) ((k : Int) % 5 - 2) 35
      clear Z HO HB
      go_wp2_with fail
      generalize (k : Int) / 125 - 2 = p at *
      generalize (k : Int) / 25 % 5 - 2 = q at *
      generalize (k : Int) / 5 % 5 - 2 = r at *
      generalize (k : Int) % 5 - 2 = s at *
      generalize wr.alloc (.cells #[.int .i64 p, .int .i64 q, .int .i64 r, .int .i64 s] 35) = W1 at HB1 HO1 TA1 ⊢
      refine (turnRight_any p q r s _).mono ?_
      rintro e W2 ⟨rfl, hx⟩
      have TA2 := TA1.kept TA1.lt hx
      have HB2 := yz (below_call (yx HB1) hx)
      have HO2 := yz (oKept (yx HO1) hx)
      clear hx TA1 HB1 HO1
      have HG : Hid (goodT (p, q, r, s) = rightT p q r s) := yz rfl
      generalize wr.heap.size = tb at *
      cases hr : rightT p q r s
      · rw [hr] at HG
        rw [yx HG, if_neg (by simp), List.append_nil] at HSN
        have HO3 : Hid (W2.ownsRow w.heap.size 35 4 u1 (turnsTo (k + 1)).length (flatT (turnsTo (k + 1)))) := yz (by rw [yx HSN]; exact yx HO2)
        go_wp2_with fail
        go_roundw
        case rel => exact ⟨k + 1, by omega, by go_num, HO3, HB2⟩
        case measure => simp [intOf] <;> omega
      · rw [hr] at HG
        rw [yx HG, if_pos rfl] at HSN
        obtain ⟨e0, e1, e2, e3⟩ := TA2
        have Z1 := below1 W2 (.cells #[.int .i64 p, .int .i64 q, .int .i64 r, .int .i64 s] 35)
        have hown := oKept (yx HO2) Z1
        have B3 := below_call (yx HB2) Z1
        have hsz := (yx HB2).size
        clear Z1 HO2 HB2
        generalize turnsTo k = Pk at *
        go_wp2_with (at_builtin; refine wpList_append_own _ rfl _ _ 239 rfl w.heap.size 35 i0 (.agg #[.int .i64 0, .int .i64 0, .int .i64 0, .int .i64 0]) 4 32 Tryz.underlying239 hinf hz0 hz1 hz2 rfl (by decide) _ _ _ rfl hown ⟨W2.heap.size, 0, none⟩ 1 1 (flatT [(p, q, r, s)]) rfl rfl ?d2 (fun u hu => flatT_cell hu) ?d3 ?d4 ?d5 ?_)
        case d2 => first | exact fun j u h => h | exact new_cells _ _ _
        case d3 => omega
        case d4 => omega
        case d5 => first | omega | (simp; omega)
        intro v7 V7 hown7 hgrow7 _
        have HB8 := yz (oBelow B3 hown hgrow7 (by simp; omega))
        have HO8 : Hid (V7.ownsRow w.heap.size 35 4 v7 (turnsTo (k + 1)).length (flatT (turnsTo (k + 1)))) := yz (by rw [yx HSN, flatT_app, List.length_append]; exact hown7)
        clear hown7 hgrow7 hown B3 e0 e1 e2 e3
        go_wp2_with fail
        go_roundw
        case rel => exact ⟨k + 1, by omega, by go_num, HO8, HB8⟩
        case measure => simp [intOf] <;> omega
    · have hke : k = 625 := by omega
      subst hke
      go_wp2_with fail
      go_ret
      exact ⟨⟨_, rfl, yx HO⟩, yx HB⟩
def intL (xs : List Int) : List Value := xs.map (fun z => .int .i64 z)
theorem intL_cell {S : List Int} {v : Value} (h : v ∈ intL S) : v.oneCell' = true := by
  unfold intL at h
  rw [List.mem_map] at h
  obtain ⟨p, _, rfl⟩ := h
  rfl
theorem ownI_none (w : World) (B : Nat) (h : B ≤ w.heap.size) : (w.alloc (.cells #[] 2)).ownsRow B 2 1 (.slice (some ⟨w.heap.size, 0, none⟩) 0 0) 0 (intL []) :=
  ⟨rfl, .inr ⟨_, 0, #[], rfl, h, Array.getElem?_push_size, Nat.le_refl _, Nat.zero_le _, rfl, rfl⟩⟩
theorem oLower {w : World} {B B' n m : Nat} {t : TypeId} {v : Value} {xs : List Value} (h : w.ownsRow B t m v n xs) (hb : B' ≤ B) : w.ownsRow B' t m v n xs := by
  obtain ⟨h1, h2⟩ := h
  refine ⟨h1, ?_⟩
  rcases h2 with h2 | ⟨g, cap, cur, e, hg, r⟩
  · exact .inl h2
  · exact .inr ⟨g, cap, cur, e, by omega, r⟩
def hitsTo (L : List St) (a b c d : Int) (v : D3) : Nat → Nat
  | 0 => 0
  | k + 1 => hitsTo L a b c d v k + if sameD v (apD a b c d (stA L k).2) = true then 1 else 0
def hitsOf (L : List St) (a b c d : Int) (S : List D3) (n : Nat) : Nat → Nat
  | 0 => 0
  | i + 1 => hitsOf L a b c d S n i + hitsTo L a b c d (vA S i) n
theorem hitsTo_le (L : List St) (a b c d : Int) (v : D3) : ∀ k, hitsTo L a b c d v k ≤ k
  | 0 => Nat.le_refl _
  | k + 1 => by unfold hitsTo; have := hitsTo_le L a b c d v k; split <;> omega
theorem hitsOf_le (L : List St) (a b c d : Int) (S : List D3) (n : Nat) : ∀ i, hitsOf L a b c d S n i ≤ i * n
  | 0 => Nat.zero_le _
  | i + 1 => by unfold hitsOf; have := hitsOf_le L a b c d S n i; have := hitsTo_le L a b c d (vA S i) n; rw [Nat.succ_mul]; omega
def idsL (L : List St) (a b c d : Int) (S : List D3) : List Int := S.map (fun v => idTo L a b c d v L.length)
theorem ids_snoc (L : List St) (a b c d : Int) (S : List D3) (i : Nat) (hi : i < S.length) : idsL L a b c d (S.take (i + 1)) = idsL L a b c d (S.take i) ++ [idTo L a b c d (vA S i) L.length] := by
  have e : S.take (i + 1) = S.take i ++ [vA S i] := by
    rw [List.take_succ_eq_append_getElem hi]
    congr 2
    unfold vA
    rw [List.getD_eq_getElem?_getD, List.getElem?_eq_getElem hi]
    rfl
  unfold idsL
  rw [e, List.map_append]
  rfl
theorem l02Same_within (p q : D3) (w : World) (hp : withinB 1000000 p.1 p.2.1 p.2.2 = true) (hq : withinB 1000000 q.1 q.2.1 q.2.2 = true) :
    Calls Tryz.prog 101 #[.agg #[.int .i64 p.1, .int .i64 p.2.1, .int .i64 p.2.2], .agg #[.int .i64 q.1, .int .i64 q.2.1, .int .i64 q.2.2]] w fun e w' => e = .returned (.bool (sameD q p)) ∧ Below w.heap.size w w' := by
  refine (l02Same_any _ _ _ _ _ _ w).mono fun e w' h => ?_
  have h2 := same_within hp hq
  rw [sameD_comm]
  unfold sameD
  rw [← h2]
  exact h
theorem l03Apply_small (a b c d : Int) (v : D3) (w : World) (ht : rightT a b c d = true) (hv : smallB v.1 v.2.1 v.2.2 = true) :
    Calls Tryz.prog 176 #[.agg #[.int .i64 a, .int .i64 b, .int .i64 c, .int .i64 d], .agg #[.int .i64 v.1, .int .i64 v.2.1, .int .i64 v.2.2]] w fun e w' => e = .returned (.agg #[.int .i64 (apD a b c d v).1, .int .i64 (apD a b c d v).2.1, .int .i64 (apD a b c d v).2.2]) ∧ Below w.heap.size w w' :=
  l03Apply_any a b c d v.1 v.2.1 v.2.2 w (rightT_iff.1 ht).1 (wide_in (small_wideB hv))
theorem wide_million {x y z : Int} (h : wideB x y z = true) : withinB 1000000 x y z = true := by
  have h2 := (rightB_iff.1 (wide_iff h).1).1
  rw [withinB_iff]
  exact h2
set_option maxHeartbeats 4000000 in
set_option maxRecDepth 100000 in
theorem l06Match_any (L : List St) (S : List D3) (ar br : Option Addr) (cr dr : Nat) (a b c d : Int) (w : World) (hk : skyB L = true) (hr : rightT a b c d = true) (hp : spotsB S = true) (hS : Stars w ar L L.length) (hD : Dirs w br S S.length) :
    Calls Tryz.prog 141 #[.slice ar L.length cr, .agg #[.int .i64 a, .int .i64 b, .int .i64 c, .int .i64 d], .slice br S.length dr] w fun e w' => (∃ v, e = .returned (.tuple #[v, .int .i64 (hitsOf L a b c d S L.length S.length : Int)]) ∧ w'.ownsRow w.heap.size 2 1 v (idsL L a b c d S).length (intL (idsL L a b c d S))) ∧ Below w.heap.size w w' := by
  obtain ⟨i0, hinf, hz0, hz1, hz2⟩ := info_parts info_i64
  have hm8 : 1000 ≤ maxLen := by decide +kernel
  have HSM : Hid (∀ j, j < L.length → smallB (stA L j).2.1 (stA L j).2.2.1 (stA L j).2.2.2 = true) := yz (fun j hj => ok_small ((sky_ok hk).2 j hj))
  have HWD : Hid (∀ j, j < S.length → wideD (vA S j) = true) := yz (fun j hj => okV_wide ((spots_ok hp).2 j hj))
  have hn12 := (sky_ok hk).1
  have hm6 := (spots_ok hp).1
  have HSN := yz (ids_snoc L a b c d S)
  have HRT := yz hr
  have HS := yz hS
  have HD := yz hD
  have HAL : Hid (idsL L a b c d (S.take S.length) = idsL L a b c d S) := yz (by rw [List.take_length])
  clear hS hD hk hr hp
  generalize S.length = m at *
  generalize L.length = n at *
  have T0 := turnAt_new w a b c d 35
  have B0 := below1 w (.cells #[.int .i64 a, .int .i64 b, .int .i64 c, .int .i64 d] 35)
  have e1 : (w.alloc (.cells #[.int .i64 a, .int .i64 b, .int .i64 c, .int .i64 d] 35)).heap.size = w.heap.size + 1 := by simp
  have Z := below1 (w.alloc (.cells #[.int .i64 a, .int .i64 b, .int .i64 c, .int .i64 d] 35)) (.cells #[] 2)
  have O0 := ownI_none (w.alloc (.cells #[.int .i64 a, .int .i64 b, .int .i64 c, .int .i64 d] 35)) (w.heap.size + 1) (by omega)
  rw [e1] at O0
  have HT := yz (T0.kept T0.lt Z)
  have HB := yz (below_call B0 Z)
  have HO := yz O0
  have hlow : w.heap.size + 1 ≤ ((w.alloc (.cells #[.int .i64 a, .int .i64 b, .int .i64 c, .int .i64 d] 35)).alloc (.cells #[] 2)).heap.size := by simp
  clear T0 B0 Z O0 e1
  go_enter Tryz.func141, Tryz.ntmps141
  go_wp2_with fail
  generalize (w.alloc (.cells #[.int .i64 a, .int .i64 b, .int .i64 c, .int .i64 d] 35)).alloc (.cells #[] 2) = W0 at HT HB HO hlow ⊢
  go_loopw [8, 9, 10] (fun v cc kk wr => ∃ i : Nat, i ≤ m ∧ kk = .int .i64 i ∧ cc = .int .i64 (hitsOf L a b c d S n i : Int) ∧ Hid (wr.ownsRow (w.heap.size + 1) 2 1 v (idsL L a b c d (S.take i)).length (intL (idsL L a b c d (S.take i)))) ∧ Hid (TurnAt wr w.heap.size a b c d) ∧ Hid (Below w.heap.size w wr) ∧ w.heap.size + 1 ≤ wr.heap.size) (fun _ _ kk _ => m - (intOf kk).toNat)
  case atStart => exact ⟨0, by omega, rfl, rfl, HO, HT, HB, hlow⟩
  case round =>
    clear HO HT HB hlow
    obtain ⟨i, hi, rfl, rfl, HO, HT, HB, hlow⟩ := hrel
    by_cases him : i < m
    · have him2 : (i : Int) < (m : Int) := by omega
      have hhl := hitsOf_le L a b c d S n i
      have hhl2 : hitsOf L a b c d S n i ≤ 100 := by have := Nat.mul_le_mul (show i ≤ 6 by omega) hn12; omega
      have hwd := yx HWD i him
      have HHI : Hid (hitsOf L a b c d S n (i + 1) = hitsOf L a b c d S n i + hitsTo L a b c d (vA S i) n) := yz rfl
      have HSI := yz (yx HSN i (by first | exact him | omega))
      rcases yx HD with h | ⟨bb, bo, rfl, hbb, hbc⟩
      · omega
      have hst := hbc i him
      clear hbc
      obtain ⟨⟨v1, v2, v3⟩, hv⟩ : ∃ v, vA S i = v := ⟨_, rfl⟩
      rw [hv] at hst HHI HSI hwd
      clear hv
      have HVC := yz hst
      clear hst
      generalize hitsOf L a b c d S n i = hc0 at *
      go_wp2_with fail
      go_loopw [9, 11, 12] (fun cc id kk wr => ∃ k : Nat, k ≤ n ∧ kk = .int .i64 k ∧ cc = .int .i64 ((hc0 + hitsTo L a b c d (v1, v2, v3) k : Nat) : Int) ∧ id = .int .i64 (idTo L a b c d (v1, v2, v3) k) ∧ Hid (wr.ownsRow (w.heap.size + 1) 2 1 u8 (idsL L a b c d (S.take i)).length (intL (idsL L a b c d (S.take i)))) ∧ Hid (TurnAt wr w.heap.size a b c d) ∧ Hid (Below w.heap.size w wr) ∧ w.heap.size + 1 ≤ wr.heap.size) (fun _ _ kk _ => n - (intOf kk).toNat)
      case atStart => exact ⟨0, by omega, rfl, by rfl, rfl, HO, HT, HB, hlow⟩
      case round =>
        clear HO HT HB hlow
        obtain ⟨k, hk, rfl, rfl, rfl, HO, HT, HB, hlow⟩ := hrel
        by_cases hkn : k < n
        · have hkn2 : (k : Int) < (n : Int) := by omega
          rcases yx HS with h0 | ⟨sb, so, rfl, hsb, hsc⟩
          · omega
          have hst := (hsc k hkn).kept hsb (yx HB)
          clear hsc
          have hvt := (yx HVC).kept hbb (yx HB)
          have hsm := yx HSM k hkn
          have hhk := hitsTo_le L a b c d (v1, v2, v3) k
          have HHK : Hid (hitsTo L a b c d (v1, v2, v3) (k + 1) = hitsTo L a b c d (v1, v2, v3) k + if sameD (v1, v2, v3) (apD a b c d (stA L k).2) = true then 1 else 0) := yz rfl
          have HID : Hid (idTo L a b c d (v1, v2, v3) (k + 1) = if sameD (v1, v2, v3) (apD a b c d (stA L k).2) = true then (stA L k).1 else idTo L a b c d (v1, v2, v3) k) := yz rfl
          obtain ⟨⟨s1, s2, s3, s4⟩, hs⟩ : ∃ s, stA L k = s := ⟨_, rfl⟩
          rw [hs] at hst hsm HID HHK
          clear hs
          obtain ⟨c0, c1, c2, c3⟩ := hst
          obtain ⟨d0, d1, d2⟩ := hvt
          obtain ⟨e0, e1, e2, e3⟩ := yx HT
          have HID' : Hid (idTo L a b c d (v1, v2, v3) (k + 1) = if sameD (v1, v2, v3) (apD a b c d (s2, s3, s4)) = true then s1 else idTo L a b c d (v1, v2, v3) k) := HID
          have HHK' : Hid (hitsTo L a b c d (v1, v2, v3) (k + 1) = hitsTo L a b c d (v1, v2, v3) k + if sameD (v1, v2, v3) (apD a b c d (s2, s3, s4)) = true then 1 else 0) := HHK
          have cA := yz (fun W => l03Apply_small a b c d (s2, s3, s4) W (yx HRT) hsm)
          have cS := yz (fun W => l02Same_within (apD a b c d (s2, s3, s4)) (v1, v2, v3) W (apD_within (yx HRT) hsm) (wide_million hwd))
          clear HID HHK hsm
          generalize apD a b c d (s2, s3, s4) = q at *
          obtain ⟨q1, q2, q3⟩ := q
          generalize sameD (v1, v2, v3) (q1, q2, q3) = sm at *
          generalize hitsTo L a b c d (v1, v2, v3) k = hk0 at *
          generalize hiv : idTo L a b c d (v1, v2, v3) k = idv at *
          clear hiv
          simp only at cA cS
          have r0 := cell_regrown c0
          have r1 := cell_regrown c1
          have r2 := cell_regrown c2
          have r3 := cell_regrown c3
          have x0 := cell_regrown d0
          have x1 := cell_regrown d1
          have x2 := cell_regrown d2
          have y0 := cell_regrown e0
          have y1 := cell_regrown e1
          have y2 := cell_regrown e2
          have y3 := cell_regrown e3
          have HC0 := yz c0
          clear c0 c1 c2 c3 d0 d1 d2 e0 e1 e2 e3
          go_wp2_with fail
          refine wp_region_quiet_below (by kernel_rfl) (by kernel_rfl) ?_
          repeat (go_big_quiet_step (first | (with_reducible exact Calls.regrown_of (yx cA _)) | (with_reducible exact Calls.regrown_of (yx cS _))))
          refine wpQuiet_nil ?_
          intro _ hw'
          obtain ⟨⟨dq, osq⟩, hw''⟩ := hw'
          subst hw''
          have hx := below_regrown wr dq osq
          have HO3 := yz (oKept (yx HO) hx)
          have HT3 := yz ((yx HT).kept (yx HT).lt hx)
          have HB3 := yz (below_call (yx HB) hx)
          have hlow3 := Nat.le_trans hlow hx.size
          have c0 := r0 dq osq
          generalize grow (redrawn wr dq) osq = W3 at hx HO3 HT3 HB3 hlow3 c0 ⊢
          clear hx cA cS r0 r1 r2 r3 x0 x1 x2 y0 y1 y2 y3 HO HT HB hlow
          cases sm
          · rw [if_neg (by simp)] at HID' HHK'
            go_wp2_with fail
            go_roundw
            case rel => exact ⟨k + 1, by omega, by go_num, by rw [yx HHK']; rfl, by rw [yx HID'], HO3, HT3, HB3, hlow3⟩
            case measure => simp [intOf]; omega
          · rw [if_pos rfl] at HID' HHK'
            go_wp2_with fail
            go_roundw
            case rel => exact ⟨k + 1, by omega, by go_num, by rw [yx HHK']; go_num, by rw [yx HID'], HO3, HT3, HB3, hlow3⟩
            case measure => simp [intOf]; omega
        · have hkn' : k = n := by omega
          subst hkn'
          have hhk := hitsTo_le L a b c d (v1, v2, v3) k
          have HCC : Hid ((hc0 + hitsTo L a b c d (v1, v2, v3) k : Nat) = hitsOf L a b c d S k (i + 1)) := yz (yx HHI).symm
          have hli : (idsL L a b c d (S.take i)).length ≤ 6 := by unfold idsL; rw [List.length_map]; have := List.length_take_le i S; omega
          rw [yx HCC]
          generalize idTo L a b c d (v1, v2, v3) k = idv at *
          generalize hce : hitsOf L a b c d S k (i + 1) = hcn at *
          have HCE := yz hce
          clear hce
          have Z1 := below1 wr (.cells #[.int .i64 idv] 2)
          have hown := oKept (yx HO) Z1
          have B3 := below_call (yx HB) Z1
          have T3 := (yx HT).kept (yx HT).lt Z1
          clear Z1 HO HB HT
          generalize idsL L a b c d (S.take i) = Pk at *
          go_wp2_with (at_builtin; refine wpList_append_own _ rfl _ _ 188 rfl (w.heap.size + 1) 2 i0 (.int .i64 0) 1 8 Tryz.underlying188 hinf hz0 hz1 hz2 rfl (by decide) _ _ _ rfl hown ⟨wr.heap.size, 0, none⟩ 1 1 (intL [idv]) rfl rfl ?d2 (fun u hu => intL_cell hu) ?d3 ?d4 ?d5 ?_)
          case d2 => first | exact fun j u h => h | exact new_cells _ _ _
          case d3 => omega
          case d4 => omega
          case d5 => first | omega | (simp; omega)
          intro v7 V7 hown7 hgrow7 _
          have ne : ∀ z, z < w.heap.size + 1 → some z ≠ u8.ownBlock := fun z hz e => by have := (hown.lt z e.symm).1; omega
          have HB8 : Hid (Below w.heap.size w V7) := yz (B3.trans ⟨hgrow7.os, hgrow7.tape, hgrow7.output, hgrow7.size, fun z hz => hgrow7.block z (by simp; omega) (ne z (by omega))⟩)
          have HT8 := yz (T3.same (hgrow7.block w.heap.size (by simp; omega) (ne _ (by omega))))
          have HO8 : Hid (V7.ownsRow (w.heap.size + 1) 2 1 v7 (idsL L a b c d (S.take (i + 1))).length (intL (idsL L a b c d (S.take (i + 1))))) := yz (by
            rw [yx HSI, List.length_append]
            unfold intL
            rw [List.map_append]
            exact hown7)
          have hlow8 : w.heap.size + 1 ≤ V7.heap.size := by have := hgrow7.size; simp at this; omega
          clear hown7 hgrow7 hown B3 T3 ne
          go_wp2_with fail
          go_roundw
          case rel => exact ⟨i + 1, by omega, by go_num, by rw [yx HCE], HO8, HT8, HB8, hlow8⟩
          case measure => simp [intOf]; omega
    · have him' : i = m := by omega
      subst him'
      rw [yx HAL] at HO
      go_wp2_with fail
      exact bodyPost_ret (v := .tuple #[u8, .int .i64 (hitsOf L a b c d S n i : Int)]) (by simp [results, Tryz.results141, go_sem]) rfl ⟨⟨_, rfl, oLower (yx HO) (by omega)⟩, yx HB⟩
end Go.Proofs.YteoonaanoenjiaaGreatDoor
namespace Go.Proofs.YteoonaanoenjiaaGreatDoor
open Go.RowKit Go.Sort
set_option linter.unusedVariables false
set_option linter.unusedSimpArgs false
theorem dirs_ownV {w : World} {B : Nat} {S : List D3} {a : Option Addr} {k : Nat} (h : w.ownsRow B 111 3 (.slice a S.length k) S.length (flatV S)) : Dirs w a S S.length ∧ (S.length ≤ k ∧ k ≤ maxLen ∨ S.length = 0 ∧ k = 0) := by
  rcases h.2 with ⟨h1, h0⟩ | ⟨g, cap, cur, e, hb, hg, h1, h2, h3, h4⟩
  · injection h1 with e1 e2 e3
    exact ⟨.inl h0, .inr ⟨h0, e3⟩⟩
  · injection e with e1 e2 e3
    subst e1 e3
    refine ⟨.inr ⟨g, 0, rfl, (Array.getElem?_eq_some_iff.1 hg).1, fun i hi => ?_⟩, .inl ⟨h1, h2⟩⟩
    have hf : ∀ (S : List D3) (i : Nat), i < S.length → (flatV S)[i * 3]? = some (.int .i64 (vA S i).1) ∧ (flatV S)[i * 3 + 1]? = some (.int .i64 (vA S i).2.1) ∧ (flatV S)[i * 3 + 2]? = some (.int .i64 (vA S i).2.2) := by
      intro S
      induction S with
      | nil => intro i hi; simp at hi
      | cons x S ih =>
        intro i hi
        have ex : flatV (x :: S) = vec3 x ++ flatV S := by unfold flatV; simp
        rw [ex]
        cases i with
        | zero => exact ⟨rfl, rfl, rfl⟩
        | succ i =>
          have hv : vA (x :: S) (i + 1) = vA S i := by unfold vA; simp
          rw [hv]
          have hl : (vec3 x).length = 3 := rfl
          have := ih i (by simpa using hi)
          refine ⟨?_, ?_, ?_⟩
          · rw [List.getElem?_append_right (by omega), hl, show (i + 1) * 3 - 3 = i * 3 by omega]; exact this.1
          · rw [List.getElem?_append_right (by omega), hl, show (i + 1) * 3 + 1 - 3 = i * 3 + 1 by omega]; exact this.2.1
          · rw [List.getElem?_append_right (by omega), hl, show (i + 1) * 3 + 2 - 3 = i * 3 + 2 by omega]; exact this.2.2
    obtain ⟨g0, g1, g2⟩ := hf S i hi
    have cl : ∀ j u, j < S.length * 3 → (flatV S)[j]? = some u → w.cell? ⟨g, j, none⟩ = some u := by
      intro j u hj hu
      rw [cell_of_row w g j cur _ _ hg]
      rw [← h4, List.getElem?_take, if_pos hj] at hu
      simpa using hu
    rw [Nat.zero_add]
    exact ⟨cl _ _ (by omega) g0, cl _ _ (by omega) g1, cl _ _ (by omega) g2⟩
theorem Dirs.row {w w' : World} {a : Option Addr} {L : List D3} {n lo : Nat} {row : Option Nat} (h : Dirs w a L n) (hg : w.grownBy w' row) (hr : ∀ g, row = some g → lo ≤ g) (ha : ∀ y, a = some y → y.block < lo) : Dirs w' a L n := by
  rcases h with h | ⟨b, o, rfl, hb, hc⟩
  · exact .inl h
  · refine .inr ⟨b, o, rfl, Nat.lt_of_lt_of_le hb hg.size, fun i hi => ?_⟩
    have e : w'.heap[b]? = w.heap[b]? := hg.block b hb (fun e => by have := hr b e.symm; have := ha _ rfl; dsimp only at this; omega)
    have hc' : ∀ q, w'.cell? ⟨b, q, none⟩ = w.cell? ⟨b, q, none⟩ := fun q => by unfold World.cell?; rw [show w'.heap[(⟨b, q, none⟩ : Addr).block]? = w.heap[(⟨b, q, none⟩ : Addr).block]? from e]
    obtain ⟨h0, h1, h2⟩ := hc i hi
    exact ⟨by rw [hc']; exact h0, by rw [hc']; exact h1, by rw [hc']; exact h2⟩
theorem Blk.row {w w' : World} {b lo : Nat} {cs : List Value} {t : TypeId} {row : Option Nat} (h : Blk w b cs t) (hg : w.grownBy w' row) (hr : ∀ g, row = some g → lo ≤ g) (hb : b < lo) : Blk w' b cs t :=
  (hg.block b h.lt (fun e => by have := hr b e.symm; omega)).trans h
structure FewSt (w wr : World) (lo : Nat) (a : Option Addr) (R : List D3) : Prop where
  dirs : Dirs wr a R R.length
  far : ∀ y, a = some y → y.block < lo
  low : w.heap.size ≤ lo
  room : lo ≤ wr.heap.size
  bel : Below w.heap.size w wr
theorem FewSt.kept {w w1 w2 : World} {lo : Nat} {a : Option Addr} {R : List D3} (h : FewSt w w1 lo a R) (hb : Below w1.heap.size w1 w2) : FewSt w w2 lo a R :=
  ⟨h.dirs.kept hb, h.far, h.low, Nat.le_trans h.room hb.size, below_call h.bel hb⟩
theorem FewSt.row {w w1 w2 : World} {lo : Nat} {a : Option Addr} {R : List D3} {row : Option Nat} (h : FewSt w w1 lo a R) (hg : w1.grownBy w2 row) (hr : ∀ g, row = some g → lo ≤ g) : FewSt w w2 lo a R :=
  ⟨h.dirs.row hg hr h.far, h.far, h.low, Nat.le_trans h.room hg.size, h.bel.trans ⟨hg.os, hg.tape, hg.output, hg.size, fun k hk => hg.block k (by have := h.low; have := h.room; omega) (fun e => by have := hr k e.symm; have := h.low; omega)⟩⟩
theorem spotsR_len (wd ht : Int) (s : ByteArray) (lv fo : Int) : (spotsR wd ht s lv fo).length ≤ 8 := by
  unfold spotsR
  split
  · have := pick_len wd ht s fo (resB wd ht s lv)
    have := resB_len' wd ht s lv
    omega
  · simp
theorem own_far {w : World} {B n m : Nat} {t : TypeId} {a : Option Addr} {c : Nat} {xs : List Value} (h : w.ownsRow B t m (.slice a n c) n xs) (y : Addr) (e : a = some y) : B ≤ y.block ∧ y.block < w.heap.size := by
  rcases h.2 with ⟨h1, _⟩ | ⟨g, c', cur, e', hb, hh, r⟩
  · injection h1 with e1; rw [e1] at e; cases e
  · injection e' with e1; rw [e1] at e; cases e; exact ⟨hb, (Array.getElem?_eq_some_iff.1 hh).1⟩
theorem dir_cells {w : World} {a : Option Addr} {R : List D3} {n k : Nat} (h : Dirs w a R n) (hk : k < n) : ∃ b o, a = some ⟨b, o, none⟩ ∧ DirAt w b (o + k * 3) (vA R k) := by
  rcases h with h | ⟨b, o, e, _, hc⟩
  · omega
  · exact ⟨b, o, e, hc k hk⟩
set_option maxHeartbeats 4000000 in
set_option maxRecDepth 100000 in
theorem frameSpots_any (wd ht : Int) (s : ByteArray) (lv fo : Int) (w : World) (hs : s.size ≤ maxLen) :
    Calls Tryz.prog 72 #[.agg #[.int .i64 wd, .int .i64 ht, .string s, .int .i64 lv, .int .i64 fo]] w fun e w' => (∃ v, e = .returned v ∧ w'.ownsRow w.heap.size 111 3 v (fewS (spotsR wd ht s lv fo)).length (flatV (fewS (spotsR wd ht s lv fo)))) ∧ Below w.heap.size w w' := by
  obtain ⟨i0, hinf, hz0, hz1, hz2⟩ := info_parts info_vec
  have hm8 : 400 ≤ maxLen := by decide +kernel
  have hRl := spotsR_len wd ht s lv fo
  have cB := yz (fun W => implSpotsOf_any wd ht s lv fo W hs)
  generalize spotsR wd ht s lv fo = R at *
  have A0 := blk_new w [.int .i64 wd, .int .i64 ht, .string s, .int .i64 lv, .int .i64 fo] 126
  have B0 := below1 w (.cells #[.int .i64 wd, .int .i64 ht, .string s, .int .i64 lv, .int .i64 fo] 126)
  obtain ⟨f0, f1, f2, f3, f4⟩ := bcs5 (A0)
  have hl0 := A0.lt
  go_enter Tryz.func72, Tryz.ntmps72
  go_wp2_with fail
  clear f0 f1 f2 f3 f4 A0
  refine (yx cB _).mono ?_
  rintro e W1 ⟨⟨v1, rfl, ho⟩, hx⟩
  obtain ⟨a1, c1, rfl⟩ := own_slice ho
  have HST : Hid (FewSt w W1 W1.heap.size a1 R) := yz ⟨(dirs_ownV ho).1, fun y e => (own_far ho y e).2, by have := hx.size; omega, Nat.le_refl _, below_call B0 hx⟩
  have HO : Hid (W1.ownsRow W1.heap.size 111 3 (.slice none 0 0) (fewTo R 0).length (flatV (fewTo R 0))) := yz (World.ownsRow_nil _ _ _ _)
  clear ho hx B0 cB hl0
  go_wp2_with fail
  generalize W1.heap.size = lo at *
  obtain ⟨n, hn⟩ : ∃ n, R.length = n := ⟨_, rfl⟩
  have HN := yz hn
  rw [hn] at hRl ⊢
  clear hn
  go_loopw [3, 14] (fun v kk wr => ∃ k : Nat, k ≤ n ∧ kk = .int .i64 k ∧ Hid (wr.ownsRow lo 111 3 v (fewTo R k).length (flatV (fewTo R k))) ∧ Hid (FewSt w wr lo a1 R)) (fun _ kk _ => n - (intOf kk).toNat)
  case atStart => exact ⟨0, by omega, rfl, HO, HST⟩
  case round =>
    clear HO HST
    obtain ⟨k, hk, rfl, HO, HST⟩ := hrel
    by_cases hkn : k < n
    · have hkn2 : (k : Int) < (n : Int) := by omega
      obtain ⟨b, o, ha, c0, c1', c2⟩ := dir_cells (yx HST).dirs (show k < R.length by rw [yx HN]; exact hkn)
      subst ha
      have HA := yz (fun h1 h2 => few_add (L := R) (i := k) h1 h2)
      have HS := yz (fun h1 => few_same (L := R) (i := k) h1)
      have HF := yz (fun h1 => few_full (L := R) (i := k) h1)
      have hfl := (few_len R k).1
      obtain ⟨⟨q1, q2, q3⟩, hq⟩ : ∃ q, vA R k = q := ⟨_, rfl⟩
      rw [hq] at HA HS c0 c1' c2
      dsimp only at c0 c1' c2
      obtain ⟨a3, c3, rfl⟩ := own_slice (yx HO)
      obtain ⟨P2, hP2⟩ : ∃ P2, fewTo R (k + 1) = P2 := ⟨_, rfl⟩
      rw [hP2] at HA HS HF
      have HP := yz hP2
      clear hP2
      generalize fewTo R k = P at *
      have Z := below1 wr (.cells #[.int .i64 q1, .int .i64 q2, .int .i64 q3] 111)
      have HST2 := yz ((yx HST).kept Z)
      have HO2 := yz (own_kept (yx HO) Z)
      have D2 := blk_new wr [.int .i64 q1, .int .i64 q2, .int .i64 q3] 111
      clear Z HST HO hq
      obtain ⟨m, hm⟩ : ∃ m, P.length = m := ⟨_, rfl⟩
      have HM := yz hm
      rw [hm] at hfl HO2 HA HS HF ⊢
      clear hm
      obtain ⟨d0, d1, d2⟩ := bcs3 (D2)
      by_cases h6 : m < 6
      · have h6' : (m : Int) < 6 := by omega
        have hd : decide ((m : Int) < 6) = true := decide_eq_true h6'
        have hdir : Dirs (wr.alloc (.cells #[.int .i64 q1, .int .i64 q2, .int .i64 q3] 111)) a3 P m := by have h := yx HO2; rw [← yx HM] at h ⊢; exact (dirs_ownV h).1
        have cA := yz (isAmong_any P m q1 q2 q3 a3 c3 _ (by omega) hdir)
        clear hdir
        go_wp2_with fail
        clear c0 c1' c2 d0 d1 d2
        refine (yx cA).mono ?_
        rintro e W3 ⟨rfl, hx⟩
        have HST3 := yz ((yx HST2).kept hx)
        have HO3 := yz (own_kept (yx HO2) hx)
        have D3 := D2.kept hx
        clear hx HST2 HO2 D2 cA
        cases hq : amongB P (q1, q2, q3) m
        · have e0 := D3.cell 0 _ rfl
          have e1 := D3.cell 1 _ rfl
          have e2 := D3.cell 2 _ rfl
          have Z1 := below1 W3 (.cells #[.int .i64 q1, .int .i64 q2, .int .i64 q3] 111)
          have hown := own_kept (yx HO3) Z1
          have ST4 := (yx HST3).kept Z1
          have HP2 := yz (yx HA h6 hq)
          clear Z1 HO3 HST3 HA HS HF D3
          go_wp2_with (at_builtin; refine wpList_append_own _ rfl _ _ 42 rfl lo 111 i0 (.agg #[.int .i64 0, .int .i64 0, .int .i64 0]) 3 24 Tryz.underlying42 hinf hz0 hz1 hz2 rfl (by decide) _ _ _ rfl hown ⟨W3.heap.size, 0, none⟩ 1 1 (flatV [(q1, q2, q3)]) rfl rfl ?d2 (fun u hu => flatV_cell hu) ?d3 ?d4 ?d5 ?_)
          case d2 => first | exact fun j u h => h | exact new_list _ _ _
          case d3 => omega
          case d4 => omega
          case d5 => have := ST4.room; omega
          intro v7 V7 hown7 hgrow7 _
          have HST5 := yz (ST4.row hgrow7 (fun g e => (hown.lt g e).1))
          have HO5 : Hid (V7.ownsRow lo 111 3 v7 (fewTo R (k + 1)).length (flatV (fewTo R (k + 1)))) := yz (by rw [yx HP, yx HP2, flatV_app, List.length_append, yx HM]; exact hown7)
          clear hown7 hgrow7 hown ST4 e0 e1 e2 HP2
          go_wp2_with fail
          go_roundw
          case rel => exact ⟨k + 1, by omega, by go_num, HO5, HST5⟩
          case measure => simp [intOf] <;> omega
        · have HP2 := yz (yx HS hq)
          have HO5 : Hid (W3.ownsRow lo 111 3 (.slice a3 m c3) (fewTo R (k + 1)).length (flatV (fewTo R (k + 1)))) := yz (by rw [yx HP, yx HP2, yx HM]; exact yx HO3)
          clear HO3 HA HS HF D3 HP2
          go_wp2_with fail
          go_roundw
          case rel => exact ⟨k + 1, by omega, by go_num, HO5, HST3⟩
          case measure => simp [intOf] <;> omega
      · have h6' : ¬ (m : Int) < 6 := by omega
        have hd : decide ((m : Int) < 6) = false := decide_eq_false h6'
        have HP2 := yz (yx HF h6)
        have HO5 : Hid (World.ownsRow _ lo 111 3 (.slice a3 m c3) (fewTo R (k + 1)).length (flatV (fewTo R (k + 1)))) := yz (by rw [yx HP, yx HP2, yx HM]; exact yx HO2)
        clear HO2 HA HS HF HP2
        go_wp2_with fail
        go_roundw
        case rel => exact ⟨k + 1, by omega, by go_num, HO5, HST2⟩
        case measure => simp [intOf] <;> omega
    · have hkn' : k = n := by omega
      subst hkn'
      go_wp2_with fail
      go_ret
      refine ⟨⟨_, rfl, ?_⟩, (yx HST).bel⟩
      unfold fewS
      rw [yx HN]
      exact own_lower (yx HO) (yx HST).low
end Go.Proofs.YteoonaanoenjiaaGreatDoor

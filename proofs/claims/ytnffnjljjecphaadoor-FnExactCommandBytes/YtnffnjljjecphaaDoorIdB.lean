/- SpotsRight: the specification's. -/
import Derived.Test.YtnffnjljjecphaaDoorIdA
namespace Go.Proofs.YtnffnjljjecphaaDoor
open Go.RowKit Go.Sort
set_option linter.unusedVariables false

theorem same_of_right {a1 a2 a3 b1 b2 b3 : Int} (ha : rightB a1 a2 a3 = true) (hb : rightB b1 b2 b3 = true) :
    (eqB (crW a2 a3 b2 b3) (crW a3 a1 b3 b1) (crW a1 a2 b1 b2) 0 0 0 && decide (0 < dotW a1 a2 a3 b1 b2 b3)) = sameB a1 a2 a3 b1 b2 b3 := by
  unfold sameB
  rw [ha, hb]
  rfl
/-- the specification's own order: the earlier one first -/
theorem l02Same_right (p q : D3) (w : World) (hp : rightB p.1 p.2.1 p.2.2 = true) (hq : rightB q.1 q.2.1 q.2.2 = true) :
    Calls Tryd.prog 66 #[.agg #[.int .i64 p.1, .int .i64 p.2.1, .int .i64 p.2.2], .agg #[.int .i64 q.1, .int .i64 q.2.1, .int .i64 q.2.2]] w fun e w' => e = .returned (.bool (sameD p q)) ∧ Below w.heap.size w w' := by
  refine (l02Same_any _ _ _ _ _ _ w).mono fun e w' h => ?_
  rw [same_of_right hp hq] at h
  exact h

set_option maxHeartbeats 4000000 in
set_option maxRecDepth 100000 in
theorem specSpotsRight_any (L : List D3) (a : Option Addr) (c : Nat) (w : World) (hn : L.length ≤ 1048576) (hS : Dirs w a L L.length) :
    Calls Tryd.prog 27 #[.slice a L.length c] w fun e w' => e = .returned (.bool (spotsB L)) ∧ Below w.heap.size w w' := by
  obtain ⟨n, hnl⟩ : ∃ n, L.length = n := ⟨_, rfl⟩
  rw [hnl] at hn hS ⊢
  have HL := hide hnl
  clear hnl
  by_cases h12 : 6 < n
  · have h12' : (6 : Int) < (n : Int) := by omega
    have HO : Hid (spotsB L = false) := hide (spots_long (by rw [unhide HL]; exact h12))
    clear hS
    go_enter Tryd.func27, Tryd.ntmps27
    go_wp2
    go_ret
    exact ⟨by rw [unhide HO]; rfl, Below.refl _ _⟩
  have h12' : ¬ (6 : Int) < (n : Int) := by omega
  rcases hS with rfl | ⟨b, o, rfl, hb, hc⟩
  · have HO : Hid (spotsB L = true) := hide (spots_yes (by rw [unhide HL]; omega) (by rw [unhide HL]; intro j hj; omega))
    go_enter Tryd.func27, Tryd.ntmps27
    go_wp2_with fail
    refine wp_loop_rounds 1 ?_
    rw [rounds_succ]
    go_wp2_with fail
    go_ret
    exact ⟨by rw [unhide HO]; rfl, Below.refl _ _⟩
  have HC := hide hc
  clear hc
  go_enter Tryd.func27, Tryd.ntmps27
  go_wp2_with fail
  go_loopw [3] (fun i wr => ∃ k : Nat, k ≤ n ∧ i = .int .i64 k ∧ Hid (okVTo L k) ∧ Hid (Below w.heap.size w wr)) (fun i _ => n - (intOf i).toNat)
  case atStart => exact ⟨0, by omega, rfl, hide (fun j hj => absurd hj (Nat.not_lt_zero _)), hide (Below.refl _ _)⟩
  case round =>
    obtain ⟨k, hk, rfl, HF, HB⟩ := hrel
    by_cases hkn : k < n
    · have hkn2 : (k : Int) < (n : Int) := by omega
      obtain ⟨⟨s2, s3, s4⟩, hs⟩ : ∃ s, vA L k = s := ⟨_, rfl⟩
      have hst := ((unhide HC) k hkn).kept hb (unhide HB)
      rw [hs] at hst
      obtain ⟨c0, c1, c2⟩ := hst
      have HT := hide hs
      clear hs
      have HO : Hid (okV L k = (wideB s2 s3 s4 && !amongB L (s2, s3, s4) k)) := hide (by unfold okV wideD; rw [unhide HT])
      go_wp2_with fail
      refine (l04Wide_any s2 s3 s4 _).mono ?_
      rintro e W2 ⟨rfl, hx⟩
      have HB2 := hide (below_call (unhide HB) hx)
      clear hx c0 c1 c2 HB
      cases hwd : wideB s2 s3 s4
      · rw [hwd] at HO
        have HO' : Hid (okV L k = false) := HO
        go_wp2_with fail
        go_ret
        exact ⟨by rw [spots_no (by rw [unhide HL]; exact hkn) (unhide HO')]; rfl, unhide HB2⟩
      rw [hwd, Bool.true_and] at HO
      have HWD := hide hwd
      clear hwd
      go_wp2_with fail
      go_loopw [4] (fun i wr => ∃ j : Nat, j ≤ k ∧ i = .int .i64 j ∧ Hid (asideTo L (s2, s3, s4) j) ∧ Hid (Below w.heap.size w wr)) (fun i _ => k - (intOf i).toNat)
      case atStart => exact ⟨0, by omega, rfl, hide (fun j hj => absurd hj (Nat.not_lt_zero _)), HB2⟩
      case round =>
        clear HB2
        obtain ⟨j, hj, rfl, HN, HB3⟩ := hrel
        by_cases hjk : j < k
        · have hjk2 : (j : Int) < (k : Int) := by omega
          have hjn2 : (j : Int) < (n : Int) := by omega
          have HWJ := hide (okV_wide (unhide HF j hjk))
          obtain ⟨⟨t2, t3, t4⟩, ht⟩ : ∃ s, vA L j = s := ⟨_, rfl⟩
          have hst := ((unhide HC) k hkn).kept hb (unhide HB3)
          have htt := ((unhide HC) j (by omega)).kept hb (unhide HB3)
          rw [unhide HT] at hst
          rw [ht] at htt HWJ
          obtain ⟨c0, c1, c2⟩ := hst
          obtain ⟨d0, d1, d2⟩ := htt
          have HTJ := hide ht
          clear ht
          have cS : Hid (∀ W : World, Calls Tryd.prog 66 #[.agg #[.int .i64 t2, .int .i64 t3, .int .i64 t4], .agg #[.int .i64 s2, .int .i64 s3, .int .i64 s4]] W fun e w' => e = .returned (.bool (sameD (s2, s3, s4) (t2, t3, t4))) ∧ Below W.heap.size W w') := hide (fun W => by
            rw [sameD_turned (p := (s2, s3, s4)) (q := (t2, t3, t4)) (unhide HWD) (unhide HWJ)]
            exact l02Same_right (t2, t3, t4) (s2, s3, s4) W (wide_iff (unhide HWJ)).1 (wide_iff (unhide HWD)).1)
          have HSM : Hid (sameD (s2, s3, s4) (vA L j) = sameD (s2, s3, s4) (t2, t3, t4)) := hide (by rw [unhide HTJ])
          generalize sameD (s2, s3, s4) (t2, t3, t4) = sm at *
          have r0 := cell_regrown c0
          have r1 := cell_regrown c1
          have r2 := cell_regrown c2
          have q0 := cell_regrown d0
          have q1 := cell_regrown d1
          have q2 := cell_regrown d2
          clear c0 c1 c2 d0 d1 d2
          go_wp2_with fail
          refine wp_region_quiet_below (by kernel_rfl) (by kernel_rfl) ?_
          repeat (go_big_quiet_step (first | (with_reducible exact Calls.regrown_of (unhide cS _))))
          refine wpQuiet_nil ?_
          intro _ hw'
          obtain ⟨⟨dq, osq⟩, hw''⟩ := hw'
          subst hw''
          have hx := below_call (unhide HB3) (below_regrown wr dq osq)
          generalize grow (redrawn wr dq) osq = W4 at hx ⊢
          have HB4 := hide hx
          clear hx HB3 cS r0 r1 r2 q0 q1 q2
          cases sm
          · go_wp2_with fail
            go_roundw
            case rel => exact ⟨j + 1, by omega, by go_num, hide (aside_step (unhide HN) (unhide HSM)), HB4⟩
            case measure => simp [intOf]; omega
          · have HO' : Hid (okV L k = false) := hide (by rw [unhide HO, among_yes hjk (unhide HSM)]; rfl)
            go_wp2_with fail
            go_ret
            exact ⟨by rw [spots_no (by rw [unhide HL]; exact hkn) (unhide HO')]; rfl, unhide HB4⟩
        · have hjk' : j = k := by omega
          subst hjk'
          have HO' : Hid (okV L j = true) := hide (by rw [unhide HO, among_no (unhide HN)]; rfl)
          go_wp2_with fail
          go_roundw
          case rel => exact ⟨j + 1, by omega, by go_num, hide (okV_step (unhide HF) (unhide HO')), HB3⟩
          case measure => simp [intOf]; omega
    · have hkn' : k = n := by omega
      have HO : Hid (spotsB L = true) := hide (spots_yes (by rw [unhide HL]; omega) (by rw [unhide HL, ← hkn']; exact unhide HF))
      go_wp2_with fail
      go_ret
      exact ⟨by rw [unhide HO]; rfl, unhide HB⟩
end Go.Proofs.YtnffnjljjecphaaDoor

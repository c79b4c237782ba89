/- Seen: the specification's. -/
import Derived.Test.YtijpnnooenpjoahDoorSeenB
import Derived.Test.YtijpnnooenpjoahDoorPlace
namespace Go.Proofs.YtijpnnooenpjoahDoor
open Go.RowKit Go.Sort
set_option linter.unusedVariables false

theorem holdS {wr wx : World} {A b o1 o2 o3 : Nat} {p q r s x y z : Int} (ht : TurnAt wr A p q r s) (h1 : wr.cell? ⟨b, o1, none⟩ = some (.int .i64 x)) (h2 : wr.cell? ⟨b, o2, none⟩ = some (.int .i64 y)) (h3 : wr.cell? ⟨b, o3, none⟩ = some (.int .i64 z)) (h : Below wr.heap.size wr wx) :
    ((wx.cell? ⟨A, 0, none⟩ = some (.int .i64 p) ∧ wx.cell? ⟨A, 1, none⟩ = some (.int .i64 q) ∧ wx.cell? ⟨A, 2, none⟩ = some (.int .i64 r) ∧ wx.cell? ⟨A, 3, none⟩ = some (.int .i64 s)) ∧ (wx.cell? ⟨b, o1, none⟩ = some (.int .i64 x) ∧ wx.cell? ⟨b, o2, none⟩ = some (.int .i64 y) ∧ wx.cell? ⟨b, o3, none⟩ = some (.int .i64 z))) ∧ Below wr.heap.size wr wx := by
  have hb := World.block_lt_of_cell? wr _ h1
  obtain ⟨k0, k1, k2, k3⟩ := ht.kept ht.lt h
  exact ⟨⟨⟨k0, k1, k2, k3⟩, by rw [h.cell (p := ⟨b, o1, none⟩) hb]; exact h1, by rw [h.cell (p := ⟨b, o2, none⟩) hb]; exact h2, by rw [h.cell (p := ⟨b, o3, none⟩) hb]; exact h3⟩, h⟩

set_option maxHeartbeats 4000000 in
set_option maxRecDepth 100000 in
theorem l04Seen_any (L : List St) (a b c d cone : Int) (ar : Option Addr) (cap : Nat) (w : World) (hk : skyB L = true) (hr : rightT a b c d = true) (hS : Stars w ar L L.length) :
    Calls Tryd.prog 36 #[.slice ar L.length cap, .agg #[.int .i64 a, .int .i64 b, .int .i64 c, .int .i64 d], .int .i64 cone] w fun e w' => ∃ v, e = .returned v ∧ w'.ownsRow (w.heap.size + 1) 2 1 v (seenTo L a b c d cone L.length).length (ints (seenTo L a b c d cone L.length)) ∧ Below w.heap.size w w' := by
  obtain ⟨h12, hok⟩ := sky_ok hk
  have HO := hide hok
  have HR := hide hr
  have HI : Hid (inT 5 a b c d = true) := hide (rightT_iff.1 hr).1
  clear hk hok hr
  generalize L.length = n at *
  obtain ⟨i0, hi, hz0, hz1, hz2⟩ := info_parts info_int
  have HB0 := hide ((below1 w (.cells #[.int .i64 a, .int .i64 b, .int .i64 c, .int .i64 d] 41)).alloc (by simp) (.cells #[] 2))
  have HA0 := hide ((turnAt_new w a b c d 41).alloc (.cells #[] 2))
  have HW0 := hide (World.ownsRow_lit (base := w.heap.size + 1) (e := 2) (size := 1) (w.alloc (.cells #[.int .i64 a, .int .i64 b, .int .i64 c, .int .i64 d] 41)) #[] 0 (by simp) (by simp [maxLen]) rfl)
  go_enter Tryd.func36, Tryd.ntmps36
  go_wp2_with fail
  rcases hS with rfl | ⟨b0, o, rfl, hb, hc⟩
  · refine wp_loop_rounds 1 ?_
    rw [rounds_succ]
    go_wp2_with fail
    go_ret
    exact ⟨_, rfl, by simpa [seenTo, ints] using unhide HW0, unhide HB0⟩
  have HC := hide hc
  clear hc
  go_loopw [7, 8] (fun v i wr => ∃ k : Nat, k ≤ n ∧ i = .int .i64 k ∧ Hid (wr.ownsRow (w.heap.size + 1) 2 1 v (seenTo L a b c d cone k).length (ints (seenTo L a b c d cone k))) ∧ Hid (Below w.heap.size w wr) ∧ Hid (TurnAt wr w.heap.size a b c d)) (fun _ i _ => n - (intOf i).toNat)
  case atStart => exact ⟨0, by omega, rfl, hide (by simpa [seenTo, ints] using unhide HW0), HB0, HA0⟩
  case round =>
    clear HB0 HA0 HW0
    obtain ⟨k, hk, rfl, HW, HB, HA⟩ := hrel
    by_cases hkn : k < n
    · obtain ⟨⟨s1, s2, s3, s4⟩, hs⟩ : ∃ s, stA L k = s := ⟨_, rfl⟩
      have hst := ((unhide HC) k hkn).kept hb (unhide HB)
      have hsm := ok_small ((unhide HO) k hkn)
      rw [hs] at hst hsm
      have HST := hide hst
      obtain ⟨c0, c1, c2, c3⟩ := hst
      have hw18 : withinB 1800 s2 s3 s4 = true := by
        have hsm2 : smallB s2 s3 s4 = true := hsm
        have := withinB_iff.1 (small_iff hsm2).2
        exact withinB_iff.2 ⟨by omega, by omega, by omega⟩
      have cA := hide (fun W => l03Apply_any a b c d s2 s3 s4 W (unhide HI) hw18)
      have HQ : Hid (coneS (stA L k) a b c d cone = coneB (apX a b c d s2 s3 s4) (apY a b c d s2 s3 s4) (apZ a b c d s2 s3 s4) cone) := hide (by rw [hs]; rfl)
      have HT := hide hs
      generalize apX a b c d s2 s3 s4 = x at cA HQ
      generalize apY a b c d s2 s3 s4 = y at cA HQ
      generalize apZ a b c d s2 s3 s4 = z at cA HQ
      have hkn2 : (k : Int) < (n : Int) := by omega
      clear hs hsm hw18
      go_wp2_with fail
      have K1 := hide c1
      have K2 := hide c2
      have K3 := hide c3
      clear c0 c1 c2 c3
      go_cut [9] (fun s wx => ∃ bb, s = .pointer (some ⟨bb, 0, none⟩) ∧ VecAt wx bb x y z ∧ Below wr.heap.size wr wx)
      case first =>
        go_region_held (fun w' => ((w'.cell? ⟨w.heap.size, 0, none⟩ = some (.int .i64 a) ∧ w'.cell? ⟨w.heap.size, 1, none⟩ = some (.int .i64 b) ∧ w'.cell? ⟨w.heap.size, 2, none⟩ = some (.int .i64 c) ∧ w'.cell? ⟨w.heap.size, 3, none⟩ = some (.int .i64 d)) ∧ (w'.cell? ⟨b0, o + k * 4 + 1, none⟩ = some (.int .i64 s2) ∧ w'.cell? ⟨b0, o + k * 4 + 2, none⟩ = some (.int .i64 s3) ∧ w'.cell? ⟨b0, o + k * 4 + 3, none⟩ = some (.int .i64 s4))) ∧ Below wr.heap.size wr w') (first | exact holdS (unhide HA) (unhide K1) (unhide K2) (unhide K3) (Below.refl _ _).drew | exact holdS (unhide HA) (unhide K1) (unhide K2) (unhide K3) (stepAlloc (by assumption) _) | exact holdS (unhide HA) (unhide K1) (unhide K2) (unhide K3) (by assumption) | exact holdS (unhide HA) (unhide K1) (unhide K2) (unhide K3) (stepAlloc2 (by assumption) _) | exact holdS (unhide HA) (unhide K1) (unhide K2) (unhide K3) (stepSet3 (by assumption) (by first | exact Nat.le_refl _ | exact Below.size (by assumption)) _ _ _)) ((go_at_call 63; refine (unhide cA _).mono ?_; rintro e wn ⟨rfl, hx⟩; have hw := stepCall (w1 := wr) hx (by assumption); first | (have hr : Resv wn wr.heap.size := newVecD hx; have hr2 := hr; obtain ⟨⟨r0, r1, r2⟩, f0, f1, f2⟩ := hr2) | (have hr := newVec hx; have hr2 := hr; obtain ⟨⟨r0, r1, r2⟩, f0, f1, f2⟩ := hr2) | (have hr := keptVec (by assumption) hx; have hr2 := hr; obtain ⟨⟨r0, r1, r2⟩, f0, f1, f2⟩ := hr2) | skip))
        all_goals (go_wp2_with fail; go_meet; refine ⟨_, rfl, ?_, ?_⟩)
        all_goals first | (with_reducible exact vecAt_new _ _ _ _ _) | (with_reducible exact stepAlloc2 (by assumption) _) | (with_reducible exact vecAt_set3 (by assumption) _ _ _) | (with_reducible exact below_set3' (by assumption) (by first | exact Nat.le_refl _ | exact Below.size (by assumption)) _ _ _) | trace_state
      case rest =>
        obtain ⟨bb, rfl, v5, hx⟩ := hcut
        have B2 := hide (below_call (unhide HB) hx)
        have A2 := hide ((unhide HA).kept (unhide HA).lt hx)
        have W2 := hide (ownKept (unhide HW) hx)
        have S2 := hide ((unhide HST).kept (World.block_lt_of_cell? _ _ (unhide HST).1) hx)
        obtain ⟨v0, v1, v2⟩ := v5
        have r0 := cell_regrown v0
        have r1 := cell_regrown v1
        have r2 := cell_regrown v2
        have cQ := hide (fun W => l02Dot_any x y z x y z W)
        have HD : Hid (coneB x y z cone = (decide (0 < z) && decide (wrap64 (wrap64 (cone * cone) * dotW x y z x y z) ≤ wrap64 (wrap64 (10000 * z) * z)))) := hide rfl
        generalize dotW x y z x y z = dd at cQ HD
        obtain ⟨m1, hm1⟩ : ∃ m, wrap64 (10000 * z) = m := ⟨_, rfl⟩
        obtain ⟨m2, hm2⟩ : ∃ m, wrap64 (m1 * z) = m := ⟨_, rfl⟩
        obtain ⟨m3, hm3⟩ : ∃ m, wrap64 (cone * cone) = m := ⟨_, rfl⟩
        obtain ⟨m4, hm4⟩ : ∃ m, wrap64 (m3 * dd) = m := ⟨_, rfl⟩
        rw [hm1, hm2, hm3, hm4] at HD
        clear hx HB HA HW HST K1 K2 K3 cA v0 v1 v2
        have hlen := seenTo_len L a b c d cone k
        go_wp2_with fail
        go_cut [42] (fun s wx => s = .bool (coneS (stA L k) a b c d cone) ∧ Below wc.heap.size wc wx)
        case first =>
          by_cases hz : 0 < z
          · have HC2 : Hid (coneB x y z cone = decide (m4 ≤ m2)) := hide (by rw [unhide HD]; simp [hz])
            refine wp_region_quiet_below (by kernel_rfl) (by kernel_rfl) ?_
            repeat (go_big_quiet_step (first | (with_reducible exact Calls.regrown_of (unhide cQ _))))
            refine wpQuiet_nil ?_
            intro _ hw'
            obtain ⟨⟨dq, osq⟩, hw''⟩ := hw'
            subst hw''
            have hx := below_regrown wc dq osq
            go_wp2_with fail
            go_meet
            case rel => exact ⟨by rw [unhide HQ, unhide HC2], hx⟩
          · have hz' : decide (0 < z) = false := by simpa using hz
            have HC2 : Hid (coneB x y z cone = false) := hide (by rw [unhide HD, hz']; rfl)
            refine wp_region_quiet_below (by kernel_rfl) (by kernel_rfl) ?_
            repeat (go_big_quiet_step (first | (with_reducible exact Calls.regrown_of (unhide cQ _))))
            refine wpQuiet_nil ?_
            intro _ hw'
            obtain ⟨⟨dq, osq⟩, hw''⟩ := hw'
            subst hw''
            have hx := below_regrown wc dq osq
            go_wp2_with fail
            go_meet
            case rel => exact ⟨by rw [unhide HQ, unhide HC2], hx⟩
        case rest =>
          obtain ⟨rfl, hx⟩ := hcut
          have B3 := hide (below_call (unhide B2) hx)
          have A3 := hide ((unhide A2).kept (unhide A2).lt hx)
          have S3 := hide ((unhide S2).kept (World.block_lt_of_cell? _ _ (unhide S2).1) hx)
          have hown := ownKept (unhide W2) hx
          clear hx B2 A2 W2 S2 r0 r1 r2 cQ HD hm1 hm2 hm3 hm4
          cases hq : coneS (stA L k) a b c d cone
          · have HE2 : Hid (seenTo L a b c d cone (k + 1) = seenTo L a b c d cone k) := hide (by show (if _ then _ else _) = _; rw [hq]; rfl)
            have W3 := hide hown
            clear hown hq
            go_wp2_with fail
            go_roundw
            case rel => exact ⟨k + 1, by omega, by go_num, by rw [unhide HE2]; exact W3, B3, A3⟩
            case measure => simp [intOf]; omega
          · have HE2 : Hid (seenTo L a b c d cone (k + 1) = seenTo L a b c d cone k ++ [s1]) := hide (by show (if _ then _ else _) = _; rw [hq, unhide HT]; rfl)
            clear hq
            obtain ⟨e0, _, _, _⟩ := unhide S3
            have hsz := (unhide B3).size
            have hbl : w.heap.size < wc.heap.size := (unhide A3).lt
            go_wp2_with (at_builtin; refine wpList_append_own _ rfl _ _ 39 rfl (w.heap.size + 1) 2 i0 (.int .i64 0) 1 8 Tryd.underlying39 hi hz0 hz1 hz2 rfl (by decide) _ _ _ rfl (hown.alloc _) ⟨wc.heap.size, 0, none⟩ 1 1 [.int .i64 s1] rfl rfl ?c1 ?c2 ?c3 ?c4 ?c5 ?_)
            case c2 => rfl
            case c3 => unfold maxLen; omega
            case c4 => omega
            intro v' V4 hown' hgrow _
            have hne : some w.heap.size ≠ u7.ownBlock := fun e => by have := (hown.lt _ e.symm).1; omega
            have A4 := hide (((unhide A3).alloc (.cells #[.int .i64 s1] 2)).grown hgrow hne)
            have B4 := hide (grownOwn (w2 := V4) ((unhide B3).alloc (unhide B3).size (.cells #[.int .i64 s1] 2)) (by simp; omega) (World.ownsRow_weak (hown.alloc (.cells #[.int .i64 s1] 2))) hgrow)
            have W4 : Hid (V4.ownsRow (w.heap.size + 1) 2 1 v' (seenTo L a b c d cone (k + 1)).length (ints (seenTo L a b c d cone (k + 1)))) := hide (by rw [unhide HE2]; simpa [ints] using hown')
            clear hown' hown hgrow hne A3 B3 S3 e0
            go_wp2_with fail
            go_roundw
            case rel => exact ⟨k + 1, by omega, by go_num, W4, B4, A4⟩
            case measure => simp [intOf]; omega
    · have hkn' : k = n := by omega
      subst hkn'
      go_wp2_with fail
      go_ret
      exact ⟨_, rfl, unhide HW, unhide HB⟩

set_option maxHeartbeats 2000000 in
set_option maxRecDepth 100000 in
theorem specSeen_any (L : List St) (a b c d cone : Int) (ar : Option Addr) (cap : Nat) (w : World) (hn : L.length ≤ 1048576) (hS : Stars w ar L L.length) :
    Calls Tryd.prog 15 #[.slice ar L.length cap, .agg #[.int .i64 a, .int .i64 b, .int .i64 c, .int .i64 d], .int .i64 cone] w fun e w' => ∃ v, e = .returned v ∧ w'.ownsRow (w.heap.size + 1) 2 1 v (seenL L a b c d cone).length (ints (seenL L a b c d cone)) ∧ Below w.heap.size w w' := by
  have cS := hide (fun (W : World) hW => specSky_any L ar cap W hn hW)
  have cA := hide (fun (W : World) hk hr hW => l04Seen_any L a b c d cone ar cap W hk hr hW)
  have HS := hide hS
  clear hS
  have HV := hide (show seenL L a b c d cone = if (skyB L && rightT a b c d && (decide (0 ≤ cone) && decide (cone ≤ 100))) = true then seenTo L a b c d cone L.length else [] from rfl)
  have H12 : Hid (skyB L = true → L.length ≤ 12) := hide (fun h => (sky_ok h).1)
  generalize L.length = n at *
  have HB := hide (below1 w (.cells #[.int .i64 a, .int .i64 b, .int .i64 c, .int .i64 d] 41))
  have HA := hide (turnAt_new w a b c d 41)
  have none : ∀ (W : World), Below w.heap.size w W → w.heap.size + 1 ≤ W.heap.size → (W.alloc (.cells #[] 2)).ownsRow (w.heap.size + 1) 2 1 (.slice (some ⟨W.heap.size, 0, none⟩) 0 0) 0 [] ∧ Below w.heap.size w (W.alloc (.cells #[] 2)) := fun W h1 h2 =>
    ⟨World.ownsRow_lit W #[] 0 h2 (by simp [maxLen]) rfl, h1.alloc h1.size _⟩
  have HN := hide none
  clear none
  by_cases hbig : (400 : Int) < (n : Int)
  · have hk : skyB L = false := by cases h : skyB L with | false => rfl | true => have := unhide H12 h; omega
    rw [hk] at HV
    clear hk
    go_enter Tryd.func15, Tryd.ntmps15
    go_wp2_with fail
    go_ret
    exact ⟨_, rfl, by rw [unhide HV]; simpa using unhide HN _ (unhide HB) (by simp)⟩
  have hbig' : decide ((400 : Int) < (n : Int)) = false := by simpa using hbig
  go_enter Tryd.func15, Tryd.ntmps15
  go_wp2_with fail
  refine (unhide cS _ ((unhide HS).kept (unhide HB))).mono ?_
  rintro e w1 ⟨rfl, hx⟩
  have HB1 := hide (below_call (unhide HB) hx)
  have HA1 := hide ((unhide HA).kept (by simp) hx)
  clear hx HB HA
  have hl1 : w.heap.size + 1 ≤ w1.heap.size := (unhide HA1).lt
  cases hk : skyB L
  · rw [hk] at HV
    clear hk
    go_wp2_with fail
    go_ret
    exact ⟨_, rfl, by rw [unhide HV]; exact unhide HN _ (unhide HB1) hl1⟩
  rw [hk] at HV
  have va := unhide HA1
  obtain ⟨c0, c1, c2, c3⟩ := va
  have HK := hide hk
  clear hk
  go_wp2_with fail
  refine (specTRight_any a b c d _).mono ?_
  rintro e w2 ⟨rfl, hx⟩
  have HB2 := hide (below_call (unhide HB1) hx)
  have HA2 := hide ((unhide HA1).kept (unhide HA1).lt hx)
  clear hx HB1 HA1 c0 c1 c2 c3
  have hl2 : w.heap.size + 1 ≤ w2.heap.size := (unhide HA2).lt
  cases hr : rightT a b c d
  · rw [hr] at HV
    clear hr
    go_wp2_with fail
    go_ret
    exact ⟨_, rfl, by rw [unhide HV]; exact unhide HN _ (unhide HB2) hl2⟩
  rw [hr] at HV
  have HR := hide hr
  clear hr
  go_wp2_with fail
  refine (l02Is_any cone 0 100 _).mono ?_
  rintro e w3 ⟨rfl, hw⟩
  rw [hw]
  clear hw w3
  cases hc : (decide (0 ≤ cone) && decide (cone ≤ 100))
  · rw [hc] at HV
    clear hc
    go_wp2_with fail
    go_ret
    exact ⟨_, rfl, by rw [unhide HV]; exact unhide HN _ (unhide HB2) hl2⟩
  rw [hc] at HV
  have HV' : Hid (seenL L a b c d cone = seenTo L a b c d cone n) := hide (by rw [unhide HV]; rfl)
  clear hc HV
  have va := unhide HA2
  obtain ⟨c0, c1, c2, c3⟩ := va
  go_wp2_with fail
  refine (unhide cA _ (unhide HK) (unhide HR) ((unhide HS).kept (unhide HB2))).mono ?_
  rintro e w4 ⟨v, rfl, ho, hx⟩
  have HO : Hid (w4.ownsRow (w.heap.size + 1) 2 1 v (seenTo L a b c d cone n).length (ints (seenTo L a b c d cone n))) := hide (World.ownsRow_less ho (by omega))
  have HB4 := hide (below_call (unhide HB2) hx)
  clear hx ho c0 c1 c2 c3
  go_wp2_with fail
  go_ret
  exact ⟨_, rfl, by rw [unhide HV']; exact unhide HO, unhide HB4⟩
end Go.Proofs.YtijpnnooenpjoahDoor

/- Several texts in one: SeenC. -/
import Derived.Test.YthoiooefclbecaaGreatDoorQFnSkyOwn32
import Derived.Test.YthoiooefclbecaaGreatDoorQFnSkyOwn3
namespace Go.Proofs.YthoiooefclbecaaGreatDoor
set_option linter.unusedVariables false
set_option linter.unusedSimpArgs false
set_option maxRecDepth 100000
set_option maxHeartbeats 8000000
section
open Go.RowKit Go.Sort
theorem ng {wr wx : World} {A b o1 o2 o3 : Nat} {p q r s x y z : Int} (ht : aG wr A p q r s) (h1 : wr.cell? ⟨b, o1, none⟩ = some (.int .i64 x)) (h2 : wr.cell? ⟨b, o2, none⟩ = some (.int .i64 y)) (h3 : wr.cell? ⟨b, o3, none⟩ = some (.int .i64 z)) (h : Below wr.heap.size wr wx) :
  ((wx.cell? ⟨A, 0, none⟩ = some (.int .i64 p) ∧ wx.cell? ⟨A, 1, none⟩ = some (.int .i64 q) ∧ wx.cell? ⟨A, 2, none⟩ = some (.int .i64 r) ∧ wx.cell? ⟨A, 3, none⟩ = some (.int .i64 s)) ∧ (wx.cell? ⟨b, o1, none⟩ = some (.int .i64 x) ∧ wx.cell? ⟨b, o2, none⟩ = some (.int .i64 y) ∧ wx.cell? ⟨b, o3, none⟩ = some (.int .i64 z))) ∧ Below wr.heap.size wr wx := by
 have hb := World.block_lt_of_cell? wr _ h1
 obtain ⟨k0, k1, k2, k3⟩ := ht.kept ht.lt h
 exact ⟨⟨⟨k0, k1, k2, k3⟩, by rw [h.cell (p := ⟨b, o1, none⟩) hb]; exact h1, by rw [h.cell (p := ⟨b, o2, none⟩) hb]; exact h2, by rw [h.cell (p := ⟨b, o3, none⟩) hb]; exact h3⟩, h⟩
theorem nA (L : List St) (a b c d cone : Int) (ar : Option Addr) (cap : Nat) (w : World) (hk : aB L = true) (hr : aM a b c d = true) (hS : aA w ar L L.length) :
  Calls Tryz.prog 66 #[.slice ar L.length cap, .agg #[.int .i64 a, .int .i64 b, .int .i64 c, .int .i64 d], .int .i64 cone] w fun e w' => ∃ v, e = .returned v ∧ w'.ownsRow (w.heap.size + 1) 2 1 v (aW L a b c d cone L.length).length (jq (aW L a b c d cone L.length)) ∧ Below w.heap.size w w' := by
 obtain ⟨h12, hok⟩ := aQ hk
 have HO := yz hok
 have HR := yz hr
 have HI : Hid (inT 5 a b c d = true) := yz (de.1 hr).1
 clear hk hok hr
 generalize L.length = n at *
 obtain ⟨i0, hi, hz0, hz1, hz2⟩ := info_parts nk
 have HB0 := yz ((am w (.cells #[.int .i64 a, .int .i64 b, .int .i64 c, .int .i64 d] 37)).alloc (by simp) (.cells #[] 2))
 have HA0 := yz ((bc w a b c d 37).alloc (.cells #[] 2))
 have HW0 := yz (World.ownsRow_lit (base := w.heap.size + 1) (e := 2) (size := 1) (w.alloc (.cells #[.int .i64 a, .int .i64 b, .int .i64 c, .int .i64 d] 37)) #[] 0 (by simp) (by simp [maxLen]) rfl)
 go_enter Tryz.func66, Tryz.ntmps66
 go_wp2_with fail
 rcases hS with rfl | ⟨b0, o, rfl, hb, hc⟩
 ·refine wp_loop_rounds 1 ?_
  rw [rounds_succ]
  go_wp2_with fail
  go_ret
  exact ⟨_, rfl, by simpa [aW, jq] using yy HW0, yy HB0⟩
 have HC := yz hc
 clear hc
 go_loopw [7, 8] (fun v i wr => ∃ k : Nat, k ≤ n ∧ i = .int .i64 k ∧ Hid (wr.ownsRow (w.heap.size + 1) 2 1 v (aW L a b c d cone k).length (jq (aW L a b c d cone k))) ∧ Hid (Below w.heap.size w wr) ∧ Hid (aG wr w.heap.size a b c d)) (fun _ i _ => n - (intOf i).toNat)
 case atStart => exact ⟨0, by omega, rfl, yz (by simpa [aW, jq] using yy HW0), HB0, HA0⟩
 case round =>
  clear HB0 HA0 HW0
  obtain ⟨k, hk, rfl, HW, HB, HA⟩ := hrel
  by_cases hkn : k < n
  ·obtain ⟨⟨s1, s2, s3, s4⟩, hs⟩ : ∃ s, stA L k = s := ⟨_, rfl⟩
   have hst := ((yy HC) k hkn).kept hb (yy HB)
   have hsm := ck ((yy HO) k hkn)
   rw [hs] at hst hsm
   have HST := yz hst
   obtain ⟨c0, c1, c2, c3⟩ := hst
   have hw18 : az 1800 s2 s3 s4 = true := by
    have hsm2 : aF s2 s3 s4 = true := hsm
    have := aH.1 (bt hsm2).2
    exact aH.2 ⟨by omega, by omega, by omega⟩
   have cA := yz (fun W => gR a b c d s2 s3 s4 W (yy HI) hw18)
   have HQ : Hid (lp (stA L k) a b c d cone = gd (apX a b c d s2 s3 s4) (apY a b c d s2 s3 s4) (apZ a b c d s2 s3 s4) cone) := yz (by rw [hs]; rfl)
   have HT := yz hs
   generalize apX a b c d s2 s3 s4 = x at cA HQ
   generalize apY a b c d s2 s3 s4 = y at cA HQ
   generalize apZ a b c d s2 s3 s4 = z at cA HQ
   have hkn2 : (k : Int) < (n : Int) := by omega
   clear hs hsm hw18
   go_wp2_with fail
   have K1 := yz c1
   have K2 := yz c2
   have K3 := yz c3
   clear c0 c1 c2 c3
   go_cut [9] (fun s wx => ∃ bb, s = .pointer (some ⟨bb, 0, none⟩) ∧ av wx bb x y z ∧ Below wr.heap.size wr wx)
   case first =>
    go_region_held (fun w' => ((w'.cell? ⟨w.heap.size, 0, none⟩ = some (.int .i64 a) ∧ w'.cell? ⟨w.heap.size, 1, none⟩ = some (.int .i64 b) ∧ w'.cell? ⟨w.heap.size, 2, none⟩ = some (.int .i64 c) ∧ w'.cell? ⟨w.heap.size, 3, none⟩ = some (.int .i64 d)) ∧ (w'.cell? ⟨b0, o + k * 4 + 1, none⟩ = some (.int .i64 s2) ∧ w'.cell? ⟨b0, o + k * 4 + 2, none⟩ = some (.int .i64 s3) ∧ w'.cell? ⟨b0, o + k * 4 + 3, none⟩ = some (.int .i64 s4))) ∧ Below wr.heap.size wr w') (first | exact ng (yy HA) (yy K1) (yy K2) (yy K3) (Below.refl _ _).drew | exact ng (yy HA) (yy K1) (yy K2) (yy K3) (iM (by assumption) _) | exact ng (yy HA) (yy K1) (yy K2) (yy K3) (by assumption) | exact ng (yy HA) (yy K1) (yy K2) (yy K3) (ey (by assumption) _) | exact ng (yy HA) (yy K1) (yy K2) (yy K3) (oe (by assumption) (by first | exact Nat.le_refl _ | exact Below.size (by assumption)) _ _ _)) ((go_at_call 92; refine (yy cA _).mono ?_; rintro e wn ⟨rfl, hx⟩; have hw := oa (w1 := wr) hx (by assumption); first | (have hr : oq wn wr.heap.size := pG hx; have hr2 := hr; obtain ⟨⟨r0, r1, r2⟩, f0, f1, f2⟩ := hr2) | (have hr := rD hx; have hr2 := hr; obtain ⟨⟨r0, r1, r2⟩, f0, f1, f2⟩ := hr2) | (have hr := pE (by assumption) hx; have hr2 := hr; obtain ⟨⟨r0, r1, r2⟩, f0, f1, f2⟩ := hr2) | skip))
    all_goals (go_wp2_with fail; go_meet; refine ⟨_, rfl, ?_, ?_⟩)
    all_goals first | (with_reducible exact aw _ _ _ _ _) | (with_reducible exact ey (by assumption) _) | (with_reducible exact kM (by assumption) _ _ _) | (with_reducible exact iR (by assumption) (by first | exact Nat.le_refl _ | exact Below.size (by assumption)) _ _ _) | trace_state
   case rest =>
    obtain ⟨bb, rfl, v5, hx⟩ := hcut
    have B2 := yz (ak (yy HB) hx)
    have A2 := yz ((yy HA).kept (yy HA).lt hx)
    have W2 := yz (jD (yy HW) hx)
    have S2 := yz ((yy HST).kept (World.block_lt_of_cell? _ _ (yy HST).1) hx)
    obtain ⟨v0, v1, v2⟩ := v5
    have r0 := cell_regrown v0
    have r1 := cell_regrown v1
    have r2 := cell_regrown v2
    have cQ := yz (fun W => dD x y z x y z W)
    have HD : Hid (gd x y z cone = (decide (0 < z) && decide (wrap64 (wrap64 (cone * cone) * aR x y z x y z) ≤ wrap64 (wrap64 (10000 * z) * z)))) := yz rfl
    generalize aR x y z x y z = dd at cQ HD
    obtain ⟨m1, hm1⟩ : ∃ m, wrap64 (10000 * z) = m := ⟨_, rfl⟩
    obtain ⟨m2, hm2⟩ : ∃ m, wrap64 (m1 * z) = m := ⟨_, rfl⟩
    obtain ⟨m3, hm3⟩ : ∃ m, wrap64 (cone * cone) = m := ⟨_, rfl⟩
    obtain ⟨m4, hm4⟩ : ∃ m, wrap64 (m3 * dd) = m := ⟨_, rfl⟩
    rw [hm1, hm2, hm3, hm4] at HD
    clear hx HB HA HW HST K1 K2 K3 cA v0 v1 v2
    have hlen := gy L a b c d cone k
    go_wp2_with fail
    go_cut [42] (fun s wx => s = .bool (lp (stA L k) a b c d cone) ∧ Below wc.heap.size wc wx)
    case first =>
     by_cases hz : 0 < z
     ·have HC2 : Hid (gd x y z cone = decide (m4 ≤ m2)) := yz (by rw [yy HD]; simp [hz])
      refine wp_region_quiet_below (by kernel_rfl) (by kernel_rfl) ?_
      repeat (go_big_quiet_step (first | (with_reducible exact Calls.regrown_of (yy cQ _))))
      refine wpQuiet_nil ?_
      intro _ hw'
      obtain ⟨⟨dq, osq⟩, hw''⟩ := hw'
      subst hw''
      have hx := below_regrown wc dq osq
      go_wp2_with fail
      go_meet
      case rel => exact ⟨by rw [yy HQ, yy HC2], hx⟩
     ·have hz' : decide (0 < z) = false := by simpa using hz
      have HC2 : Hid (gd x y z cone = false) := yz (by rw [yy HD, hz']; rfl)
      refine wp_region_quiet_below (by kernel_rfl) (by kernel_rfl) ?_
      repeat (go_big_quiet_step (first | (with_reducible exact Calls.regrown_of (yy cQ _))))
      refine wpQuiet_nil ?_
      intro _ hw'
      obtain ⟨⟨dq, osq⟩, hw''⟩ := hw'
      subst hw''
      have hx := below_regrown wc dq osq
      go_wp2_with fail
      go_meet
      case rel => exact ⟨by rw [yy HQ, yy HC2], hx⟩
    case rest =>
     obtain ⟨rfl, hx⟩ := hcut
     have B3 := yz (ak (yy B2) hx)
     have A3 := yz ((yy A2).kept (yy A2).lt hx)
     have S3 := yz ((yy S2).kept (World.block_lt_of_cell? _ _ (yy S2).1) hx)
     have hown := jD (yy W2) hx
     clear hx B2 A2 W2 S2 r0 r1 r2 cQ HD hm1 hm2 hm3 hm4
     cases hq : lp (stA L k) a b c d cone
     ·have HE2 : Hid (aW L a b c d cone (k + 1) = aW L a b c d cone k) := yz (by show (if _ then _ else _) = _; rw [hq]; rfl)
      have W3 := yz hown
      clear hown hq
      go_wp2_with fail
      go_roundw
      case rel => exact ⟨k + 1, by omega, by go_num, by rw [yy HE2]; exact W3, B3, A3⟩
      case measure => simp [intOf]; omega
     ·have HE2 : Hid (aW L a b c d cone (k + 1) = aW L a b c d cone k ++ [s1]) := yz (by show (if _ then _ else _) = _; rw [hq, yy HT]; rfl)
      clear hq
      obtain ⟨e0, _, _, _⟩ := yy S3
      have hsz := (yy B3).size
      have hbl : w.heap.size < wc.heap.size := (yy A3).lt
      go_wp2_with (at_builtin; refine wpList_append_own _ rfl _ _ 47 rfl (w.heap.size + 1) 2 i0 (.int .i64 0) 1 8 Tryz.underlying47 hi hz0 hz1 hz2 rfl (by decide) _ _ _ rfl (hown.alloc _) ⟨wc.heap.size, 0, none⟩ 1 1 [.int .i64 s1] rfl rfl ?c1 ?c2 ?c3 ?c4 ?c5 ?_)
      case c2 => rfl
      case c3 => unfold maxLen; omega
      case c4 => omega
      intro v' V4 hown' hgrow _
      have hne : some w.heap.size ≠ u7.ownBlock := fun e => by have := (hown.lt _ e.symm).1; omega
      have A4 := yz (((yy A3).alloc (.cells #[.int .i64 s1] 2)).grownW hgrow hne)
      have B4 := yz (gP (w2 := V4) ((yy B3).alloc (yy B3).size (.cells #[.int .i64 s1] 2)) (by simp; omega) (World.ownsRow_weak (hown.alloc (.cells #[.int .i64 s1] 2))) hgrow)
      have W4 : Hid (V4.ownsRow (w.heap.size + 1) 2 1 v' (aW L a b c d cone (k + 1)).length (jq (aW L a b c d cone (k + 1)))) := yz (by rw [yy HE2]; simpa [jq] using hown')
      clear hown' hown hgrow hne A3 B3 S3 e0
      go_wp2_with fail
      go_roundw
      case rel => exact ⟨k + 1, by omega, by go_num, W4, B4, A4⟩
      case measure => simp [intOf]; omega
  ·have hkn' : k = n := by omega
   subst hkn'
   go_wp2_with fail
   go_ret
   exact ⟨_, rfl, yy HW, yy HB⟩
theorem mC (L : List St) (a b c d cone : Int) (ar : Option Addr) (cap : Nat) (w : World) (hn : L.length ≤ 1048576) (hS : aA w ar L L.length) :
  Calls Tryz.prog 23 #[.slice ar L.length cap, .agg #[.int .i64 a, .int .i64 b, .int .i64 c, .int .i64 d], .int .i64 cone] w fun e w' => ∃ v, e = .returned v ∧ w'.ownsRow (w.heap.size + 1) 2 1 v (dM L a b c d cone).length (jq (dM L a b c d cone)) ∧ Below w.heap.size w w' := by
 have cS := yz (fun (W : World) hW => bL L ar cap W hn hW)
 have cA := yz (fun (W : World) hk hr hW => nA L a b c d cone ar cap W hk hr hW)
 have HS := yz hS
 clear hS
 have HV := yz (show dM L a b c d cone = if (aB L && aM a b c d && (decide (0 ≤ cone) && decide (cone ≤ 100))) = true then aW L a b c d cone L.length else [] from rfl)
 have H12 : Hid (aB L = true → L.length ≤ 12) := yz (fun h => (aQ h).1)
 generalize L.length = n at *
 have HB := yz (am w (.cells #[.int .i64 a, .int .i64 b, .int .i64 c, .int .i64 d] 37))
 have HA := yz (bc w a b c d 37)
 have none : ∀ (W : World), Below w.heap.size w W → w.heap.size + 1 ≤ W.heap.size → (W.alloc (.cells #[] 2)).ownsRow (w.heap.size + 1) 2 1 (.slice (some ⟨W.heap.size, 0, none⟩) 0 0) 0 [] ∧ Below w.heap.size w (W.alloc (.cells #[] 2)) := fun W h1 h2 =>
  ⟨World.ownsRow_lit W #[] 0 h2 (by simp [maxLen]) rfl, h1.alloc h1.size _⟩
 have HN := yz none
 clear none
 by_cases hbig : (400 : Int) < (n : Int)
 ·have hk : aB L = false := by cases h : aB L with | false => rfl | true => have := yy H12 h; omega
  rw [hk] at HV
  clear hk
  go_enter Tryz.func23, Tryz.ntmps23
  go_wp2_with fail
  go_ret
  exact ⟨_, rfl, by rw [yy HV]; simpa using yy HN _ (yy HB) (by simp)⟩
 have hbig' : decide ((400 : Int) < (n : Int)) = false := by simpa using hbig
 go_enter Tryz.func23, Tryz.ntmps23
 go_wp2_with fail
 refine (yy cS _ ((yy HS).kept (yy HB))).mono ?_
 rintro e w1 ⟨rfl, hx⟩
 have HB1 := yz (ak (yy HB) hx)
 have HA1 := yz ((yy HA).kept (by simp) hx)
 clear hx HB HA
 have hl1 : w.heap.size + 1 ≤ w1.heap.size := (yy HA1).lt
 cases hk : aB L
 ·rw [hk] at HV
  clear hk
  go_wp2_with fail
  go_ret
  exact ⟨_, rfl, by rw [yy HV]; exact yy HN _ (yy HB1) hl1⟩
 rw [hk] at HV
 have va := yy HA1
 obtain ⟨c0, c1, c2, c3⟩ := va
 have HK := yz hk
 clear hk
 go_wp2_with fail
 refine (bn a b c d _).mono ?_
 rintro e w2 ⟨rfl, hx⟩
 have HB2 := yz (ak (yy HB1) hx)
 have HA2 := yz ((yy HA1).kept (yy HA1).lt hx)
 clear hx HB1 HA1 c0 c1 c2 c3
 have hl2 : w.heap.size + 1 ≤ w2.heap.size := (yy HA2).lt
 cases hr : aM a b c d
 ·rw [hr] at HV
  clear hr
  go_wp2_with fail
  go_ret
  exact ⟨_, rfl, by rw [yy HV]; exact yy HN _ (yy HB2) hl2⟩
 rw [hr] at HV
 have HR := yz hr
 clear hr
 go_wp2_with fail
 refine (bF cone 0 100 _).mono ?_
 rintro e w3 ⟨rfl, hw⟩
 rw [hw]
 clear hw w3
 cases hc : (decide (0 ≤ cone) && decide (cone ≤ 100))
 ·rw [hc] at HV
  clear hc
  go_wp2_with fail
  go_ret
  exact ⟨_, rfl, by rw [yy HV]; exact yy HN _ (yy HB2) hl2⟩
 rw [hc] at HV
 have HV' : Hid (dM L a b c d cone = aW L a b c d cone n) := yz (by rw [yy HV]; rfl)
 clear hc HV
 have va := yy HA2
 obtain ⟨c0, c1, c2, c3⟩ := va
 go_wp2_with fail
 refine (yy cA _ (yy HK) (yy HR) ((yy HS).kept (yy HB2))).mono ?_
 rintro e w4 ⟨v, rfl, ho, hx⟩
 have HO : Hid (w4.ownsRow (w.heap.size + 1) 2 1 v (aW L a b c d cone n).length (jq (aW L a b c d cone n))) := yz (World.ownsRow_less ho (by omega))
 have HB4 := yz (ak (yy HB2) hx)
 clear hx ho c0 c1 c2 c3
 go_wp2_with fail
 go_ret
 exact ⟨_, rfl, by rw [yy HV']; exact yy HO, yy HB4⟩
end
end Go.Proofs.YthoiooefclbecaaGreatDoor

/- Several texts in one: SeenC, SceA, InZ, InK. -/
import Derived.Lib.QuietBelow
import Derived.BigQuiet
import Derived.Test.YtoakkmjcbnfljaaGreatDoorQFnIdentOwn34
import Derived.Test.YtoakkmjcbnfljaaGreatDoorQFnIdentOwn5
import Derived.Test.YtoakkmjcbnfljaaGreatDoorQFnIdentOwn38
import Derived.Test.YtoakkmjcbnfljaaGreatDoorQFnIdentOwn33
import Derived.Test.YtoakkmjcbnfljaaGreatDoorQFnIdentOwn2
import Derived.Test.YtoakkmjcbnfljaaGreatDoorQFnIdentOwn6
import Derived.Test.YtoakkmjcbnfljaaGreatDoorQFnIdentOwn1
import Derived.Test.YtoakkmjcbnfljaaGreatDoorQFnIdentOwn10
import Derived.Test.YtoakkmjcbnfljaaGreatDoorQFnIdentOwn8
import Derived.Test.YtoakkmjcbnfljaaGreatDoorQFnIdentOwn7
import Derived.Test.YtoakkmjcbnfljaaGreatDoorQFnIdentOwn36
import Derived.Test.YtoakkmjcbnfljaaGreatDoorQFnIdentOwn4
import Derived.Test.YtoakkmjcbnfljaaGreatDoorQFnIdentOwn39
import Derived.Test.YtoakkmjcbnfljaaGreatDoorQFnIdentOwn35
import Derived.Test.YtoakkmjcbnfljaaGreatDoorQFnIdentOwn3
namespace Go.Proofs.YtoakkmjcbnfljaaGreatDoor
set_option linter.unusedVariables false
set_option linter.unusedSimpArgs false
set_option maxRecDepth 100000
set_option maxHeartbeats 8000000
section
open Go.RowKit Go.Sort
theorem oF {wr wx : World} {A b o1 o2 o3 : Nat} {p q r s x y z : Int} (ht : aP wr A p q r s) (h1 : wr.cell? ⟨b, o1, none⟩ = some (.int .i64 x)) (h2 : wr.cell? ⟨b, o2, none⟩ = some (.int .i64 y)) (h3 : wr.cell? ⟨b, o3, none⟩ = some (.int .i64 z)) (h : Below wr.heap.size wr wx) :
  ((wx.cell? ⟨A, 0, none⟩ = some (.int .i64 p) ∧ wx.cell? ⟨A, 1, none⟩ = some (.int .i64 q) ∧ wx.cell? ⟨A, 2, none⟩ = some (.int .i64 r) ∧ wx.cell? ⟨A, 3, none⟩ = some (.int .i64 s)) ∧ (wx.cell? ⟨b, o1, none⟩ = some (.int .i64 x) ∧ wx.cell? ⟨b, o2, none⟩ = some (.int .i64 y) ∧ wx.cell? ⟨b, o3, none⟩ = some (.int .i64 z))) ∧ Below wr.heap.size wr wx := by
 have hb := World.block_lt_of_cell? wr _ h1
 obtain ⟨k0, k1, k2, k3⟩ := ht.kept ht.lt h
 exact ⟨⟨⟨k0, k1, k2, k3⟩, by rw [h.cell (p := ⟨b, o1, none⟩) hb]; exact h1, by rw [h.cell (p := ⟨b, o2, none⟩) hb]; exact h2, by rw [h.cell (p := ⟨b, o3, none⟩) hb]; exact h3⟩, h⟩
theorem oK (L : List St) (a b c d cone : Int) (ar : Option Addr) (cap : Nat) (w : World) (hk : aL L = true) (hr : aC a b c d = true) (hS : aJ w ar L L.length) :
  Calls Tryz.prog 85 #[.slice ar L.length cap, .agg #[.int .i64 a, .int .i64 b, .int .i64 c, .int .i64 d], .int .i64 cone] w fun e w' => ∃ v, e = .returned v ∧ w'.ownsRow (w.heap.size + 1) 2 1 v (bw L a b c d cone L.length).length (lR (bw L a b c d cone L.length)) ∧ Below w.heap.size w w' := by
 obtain ⟨h12, hok⟩ := bm hk
 have HO := yz hok
 have HR := yz hr
 have HI : Hid (inT 5 a b c d = true) := yz (bP.1 hr).1
 clear hk hok hr
 generalize L.length = n at *
 obtain ⟨i0, hi, hz0, hz1, hz2⟩ := info_parts sj
 have HB0 := yz ((ak w (.cells #[.int .i64 a, .int .i64 b, .int .i64 c, .int .i64 d] 34)).alloc (by simp) (.cells #[] 2))
 have HA0 := yz ((aT w a b c d 34).alloc (.cells #[] 2))
 have HW0 := yz (World.ownsRow_lit (base := w.heap.size + 1) (e := 2) (size := 1) (w.alloc (.cells #[.int .i64 a, .int .i64 b, .int .i64 c, .int .i64 d] 34)) #[] 0 (by simp) (by simp [maxLen]) rfl)
 go_enter Tryz.func85, Tryz.ntmps85
 go_wp2_with fail
 rcases hS with rfl | ⟨b0, o, rfl, hb, hc⟩
 ·refine wp_loop_rounds 1 ?_
  rw [rounds_succ]
  go_wp2_with fail
  go_ret
  exact ⟨_, rfl, by simpa [bw, lR] using yy HW0, yy HB0⟩
 have HC := yz hc
 clear hc
 go_loopw [7, 8] (fun v i wr => ∃ k : Nat, k ≤ n ∧ i = .int .i64 k ∧ Hid (wr.ownsRow (w.heap.size + 1) 2 1 v (bw L a b c d cone k).length (lR (bw L a b c d cone k))) ∧ Hid (Below w.heap.size w wr) ∧ Hid (aP wr w.heap.size a b c d)) (fun _ i _ => n - (intOf i).toNat)
 case atStart => exact ⟨0, by omega, rfl, yz (by simpa [bw, lR] using yy HW0), HB0, HA0⟩
 case round =>
  clear HB0 HA0 HW0
  obtain ⟨k, hk, rfl, HW, HB, HA⟩ := hrel
  by_cases hkn : k < n
  ·obtain ⟨⟨s1, s2, s3, s4⟩, hs⟩ : ∃ s, stA L k = s := ⟨_, rfl⟩
   have hst := ((yy HC) k hkn).kept hb (yy HB)
   have hsm := di ((yy HO) k hkn)
   rw [hs] at hst hsm
   have HST := yz hst
   obtain ⟨c0, c1, c2, c3⟩ := hst
   have hw18 : aF 1800 s2 s3 s4 = true := by
    have hsm2 : aH s2 s3 s4 = true := hsm
    have := aK.1 (bd hsm2).2
    exact aK.2 ⟨by omega, by omega, by omega⟩
   have cA := yz (fun W => fG a b c d s2 s3 s4 W (yy HI) hw18)
   have HQ : Hid (ql (stA L k) a b c d cone = oh (apX a b c d s2 s3 s4) (apY a b c d s2 s3 s4) (apZ a b c d s2 s3 s4) cone) := yz (by rw [hs]; rfl)
   have HT := yz hs
   generalize apX a b c d s2 s3 s4 = x at cA HQ
   generalize apY a b c d s2 s3 s4 = y at cA HQ
   generalize apZ a b c d s2 s3 s4 = z at cA HQ
   have hkn2 : (k : Int) < (n : Int) := by omega
   clear hs hsm hw18
   go_wp2_with fail
   have K1 := yz c1
   have K2 := yz c2
   have K3 := yz c3
   clear c0 c1 c2 c3
   go_cut [9] (fun s wx => ∃ bb, s = .pointer (some ⟨bb, 0, none⟩) ∧ aB wx bb x y z ∧ Below wr.heap.size wr wx)
   case first =>
    go_region_held (fun w' => ((w'.cell? ⟨w.heap.size, 0, none⟩ = some (.int .i64 a) ∧ w'.cell? ⟨w.heap.size, 1, none⟩ = some (.int .i64 b) ∧ w'.cell? ⟨w.heap.size, 2, none⟩ = some (.int .i64 c) ∧ w'.cell? ⟨w.heap.size, 3, none⟩ = some (.int .i64 d)) ∧ (w'.cell? ⟨b0, o + k * 4 + 1, none⟩ = some (.int .i64 s2) ∧ w'.cell? ⟨b0, o + k * 4 + 2, none⟩ = some (.int .i64 s3) ∧ w'.cell? ⟨b0, o + k * 4 + 3, none⟩ = some (.int .i64 s4))) ∧ Below wr.heap.size wr w') (first | exact oF (yy HA) (yy K1) (yy K2) (yy K3) (Below.refl _ _).drew | exact oF (yy HA) (yy K1) (yy K2) (yy K3) (rC (by assumption) _) | exact oF (yy HA) (yy K1) (yy K2) (yy K3) (by assumption) | exact oF (yy HA) (yy K1) (yy K2) (yy K3) (lJ (by assumption) _) | exact oF (yy HA) (yy K1) (yy K2) (yy K3) (sR (by assumption) (by first | exact Nat.le_refl _ | exact Below.size (by assumption)) _ _ _)) ((go_at_call 76; refine (yy cA _).mono ?_; rintro e wn ⟨rfl, hx⟩; have hw := sQ (w1 := wr) hx (by assumption); first | (have hr : qL wn wr.heap.size := ts hx; have hr2 := hr; obtain ⟨⟨r0, r1, r2⟩, f0, f1, f2⟩ := hr2) | (have hr := uj hx; have hr2 := hr; obtain ⟨⟨r0, r1, r2⟩, f0, f1, f2⟩ := hr2) | (have hr := tm (by assumption) hx; have hr2 := hr; obtain ⟨⟨r0, r1, r2⟩, f0, f1, f2⟩ := hr2) | skip))
    all_goals (go_wp2_with fail; go_meet; refine ⟨_, rfl, ?_, ?_⟩)
    all_goals first | (with_reducible exact aA _ _ _ _ _) | (with_reducible exact lJ (by assumption) _) | (with_reducible exact qe (by assumption) _ _ _) | (with_reducible exact og (by assumption) (by first | exact Nat.le_refl _ | exact Below.size (by assumption)) _ _ _) | trace_state
   case rest =>
    obtain ⟨bb, rfl, v5, hx⟩ := hcut
    have B2 := yz (aj (yy HB) hx)
    have A2 := yz ((yy HA).kept (yy HA).lt hx)
    have W2 := yz (qB (yy HW) hx)
    have S2 := yz ((yy HST).kept (World.block_lt_of_cell? _ _ (yy HST).1) hx)
    obtain ⟨v0, v1, v2⟩ := v5
    have r0 := cell_regrown v0
    have r1 := cell_regrown v1
    have r2 := cell_regrown v2
    have cQ := yz (fun W => dC x y z x y z W)
    have HD : Hid (oh x y z cone = (decide (0 < z) && decide (wrap64 (wrap64 (cone * cone) * bf x y z x y z) ≤ wrap64 (wrap64 (10000 * z) * z)))) := yz rfl
    generalize bf x y z x y z = dd at cQ HD
    obtain ⟨m1, hm1⟩ : ∃ m, wrap64 (10000 * z) = m := ⟨_, rfl⟩
    obtain ⟨m2, hm2⟩ : ∃ m, wrap64 (m1 * z) = m := ⟨_, rfl⟩
    obtain ⟨m3, hm3⟩ : ∃ m, wrap64 (cone * cone) = m := ⟨_, rfl⟩
    obtain ⟨m4, hm4⟩ : ∃ m, wrap64 (m3 * dd) = m := ⟨_, rfl⟩
    rw [hm1, hm2, hm3, hm4] at HD
    clear hx HB HA HW HST K1 K2 K3 cA v0 v1 v2
    have hlen := ly L a b c d cone k
    go_wp2_with fail
    go_cut [42] (fun s wx => s = .bool (ql (stA L k) a b c d cone) ∧ Below wc.heap.size wc wx)
    case first =>
     by_cases hz : 0 < z
     ·have HC2 : Hid (oh x y z cone = decide (m4 ≤ m2)) := yz (by rw [yy HD]; simp [hz])
      refine wp_region_quiet_below (by kernel_rfl) (by kernel_rfl) ?_
      repeat (go_big_quiet_step (first | (with_reducible exact Calls.regrown_of (yy cQ _))))
      refine wpQuiet_nil ?_
      intro _ hw'
      obtain ⟨⟨dq, osq⟩, hw''⟩ := hw'
      subst hw''
      have hx := below_regrown wc dq osq
      go_wp2_with fail
      go_meet
      case rel => exact ⟨by rw [yy HQ, yy HC2], hx⟩
     ·have hz' : decide (0 < z) = false := by simpa using hz
      have HC2 : Hid (oh x y z cone = false) := yz (by rw [yy HD, hz']; rfl)
      refine wp_region_quiet_below (by kernel_rfl) (by kernel_rfl) ?_
      repeat (go_big_quiet_step (first | (with_reducible exact Calls.regrown_of (yy cQ _))))
      refine wpQuiet_nil ?_
      intro _ hw'
      obtain ⟨⟨dq, osq⟩, hw''⟩ := hw'
      subst hw''
      have hx := below_regrown wc dq osq
      go_wp2_with fail
      go_meet
      case rel => exact ⟨by rw [yy HQ, yy HC2], hx⟩
    case rest =>
     obtain ⟨rfl, hx⟩ := hcut
     have B3 := yz (aj (yy B2) hx)
     have A3 := yz ((yy A2).kept (yy A2).lt hx)
     have S3 := yz ((yy S2).kept (World.block_lt_of_cell? _ _ (yy S2).1) hx)
     have hown := qB (yy W2) hx
     clear hx B2 A2 W2 S2 r0 r1 r2 cQ HD hm1 hm2 hm3 hm4
     cases hq : ql (stA L k) a b c d cone
     ·have HE2 : Hid (bw L a b c d cone (k + 1) = bw L a b c d cone k) := yz (by show (if _ then _ else _) = _; rw [hq]; rfl)
      have W3 := yz hown
      clear hown hq
      go_wp2_with fail
      go_roundw
      case rel => exact ⟨k + 1, by omega, by go_num, by rw [yy HE2]; exact W3, B3, A3⟩
      case measure => simp [intOf]; omega
     ·have HE2 : Hid (bw L a b c d cone (k + 1) = bw L a b c d cone k ++ [s1]) := yz (by show (if _ then _ else _) = _; rw [hq, yy HT]; rfl)
      clear hq
      obtain ⟨e0, _, _, _⟩ := yy S3
      have hsz := (yy B3).size
      have hbl : w.heap.size < wc.heap.size := (yy A3).lt
      go_wp2_with (at_builtin; refine wpList_append_own _ rfl _ _ 27 rfl (w.heap.size + 1) 2 i0 (.int .i64 0) 1 8 Tryz.underlying27 hi hz0 hz1 hz2 rfl (by decide) _ _ _ rfl (hown.alloc _) ⟨wc.heap.size, 0, none⟩ 1 1 [.int .i64 s1] rfl rfl ?c1 ?c2 ?c3 ?c4 ?c5 ?_)
      case c2 => rfl
      case c3 => unfold maxLen; omega
      case c4 => omega
      intro v' V4 hown' hgrow _
      have hne : some w.heap.size ≠ u7.ownBlock := fun e => by have := (hown.lt _ e.symm).1; omega
      have A4 := yz (((yy A3).alloc (.cells #[.int .i64 s1] 2)).grownW hgrow hne)
      have B4 := yz (kW (w2 := V4) ((yy B3).alloc (yy B3).size (.cells #[.int .i64 s1] 2)) (by simp; omega) (World.ownsRow_weak (hown.alloc (.cells #[.int .i64 s1] 2))) hgrow)
      have W4 : Hid (V4.ownsRow (w.heap.size + 1) 2 1 v' (bw L a b c d cone (k + 1)).length (lR (bw L a b c d cone (k + 1)))) := yz (by rw [yy HE2]; simpa [lR] using hown')
      clear hown' hown hgrow hne A3 B3 S3 e0
      go_wp2_with fail
      go_roundw
      case rel => exact ⟨k + 1, by omega, by go_num, W4, B4, A4⟩
      case measure => simp [intOf]; omega
  ·have hkn' : k = n := by omega
   subst hkn'
   go_wp2_with fail
   go_ret
   exact ⟨_, rfl, yy HW, yy HB⟩
theorem nU (L : List St) (a b c d cone : Int) (ar : Option Addr) (cap : Nat) (w : World) (hn : L.length ≤ 1048576) (hS : aJ w ar L L.length) :
  Calls Tryz.prog 49 #[.slice ar L.length cap, .agg #[.int .i64 a, .int .i64 b, .int .i64 c, .int .i64 d], .int .i64 cone] w fun e w' => ∃ v, e = .returned v ∧ w'.ownsRow (w.heap.size + 1) 2 1 v (fu L a b c d cone).length (lR (fu L a b c d cone)) ∧ Below w.heap.size w w' := by
 have cS := yz (fun (W : World) hW => dl L ar cap W hn hW)
 have cA := yz (fun (W : World) hk hr hW => oK L a b c d cone ar cap W hk hr hW)
 have HS := yz hS
 clear hS
 have HV := yz (show fu L a b c d cone = if (aL L && aC a b c d && (decide (0 ≤ cone) && decide (cone ≤ 100))) = true then bw L a b c d cone L.length else [] from rfl)
 have H12 : Hid (aL L = true → L.length ≤ 12) := yz (fun h => (bm h).1)
 generalize L.length = n at *
 have HB := yz (ak w (.cells #[.int .i64 a, .int .i64 b, .int .i64 c, .int .i64 d] 34))
 have HA := yz (aT w a b c d 34)
 have none : ∀ (W : World), Below w.heap.size w W → w.heap.size + 1 ≤ W.heap.size → (W.alloc (.cells #[] 2)).ownsRow (w.heap.size + 1) 2 1 (.slice (some ⟨W.heap.size, 0, none⟩) 0 0) 0 [] ∧ Below w.heap.size w (W.alloc (.cells #[] 2)) := fun W h1 h2 =>
  ⟨World.ownsRow_lit W #[] 0 h2 (by simp [maxLen]) rfl, h1.alloc h1.size _⟩
 have HN := yz none
 clear none
 by_cases hbig : (400 : Int) < (n : Int)
 ·have hk : aL L = false := by cases h : aL L with | false => rfl | true => have := yy H12 h; omega
  rw [hk] at HV
  clear hk
  go_enter Tryz.func49, Tryz.ntmps49
  go_wp2_with fail
  go_ret
  exact ⟨_, rfl, by rw [yy HV]; simpa using yy HN _ (yy HB) (by simp)⟩
 have hbig' : decide ((400 : Int) < (n : Int)) = false := by simpa using hbig
 go_enter Tryz.func49, Tryz.ntmps49
 go_wp2_with fail
 refine (yy cS _ ((yy HS).kept (yy HB))).mono ?_
 rintro e w1 ⟨rfl, hx⟩
 have HB1 := yz (aj (yy HB) hx)
 have HA1 := yz ((yy HA).kept (by simp) hx)
 clear hx HB HA
 have hl1 : w.heap.size + 1 ≤ w1.heap.size := (yy HA1).lt
 cases hk : aL L
 ·rw [hk] at HV
  clear hk
  go_wp2_with fail
  go_ret
  exact ⟨_, rfl, by rw [yy HV]; exact yy HN _ (yy HB1) hl1⟩
 rw [hk] at HV
 have va := yy HA1
 obtain ⟨c0, c1, c2, c3⟩ := va
 have HK := yz hk
 clear hk
 go_wp2_with fail
 refine (bn a b c d _).mono ?_
 rintro e w2 ⟨rfl, hx⟩
 have HB2 := yz (aj (yy HB1) hx)
 have HA2 := yz ((yy HA1).kept (yy HA1).lt hx)
 clear hx HB1 HA1 c0 c1 c2 c3
 have hl2 : w.heap.size + 1 ≤ w2.heap.size := (yy HA2).lt
 cases hr : aC a b c d
 ·rw [hr] at HV
  clear hr
  go_wp2_with fail
  go_ret
  exact ⟨_, rfl, by rw [yy HV]; exact yy HN _ (yy HB2) hl2⟩
 rw [hr] at HV
 have HR := yz hr
 clear hr
 go_wp2_with fail
 refine (cB cone 0 100 _).mono ?_
 rintro e w3 ⟨rfl, hw⟩
 rw [hw]
 clear hw w3
 cases hc : (decide (0 ≤ cone) && decide (cone ≤ 100))
 ·rw [hc] at HV
  clear hc
  go_wp2_with fail
  go_ret
  exact ⟨_, rfl, by rw [yy HV]; exact yy HN _ (yy HB2) hl2⟩
 rw [hc] at HV
 have HV' : Hid (fu L a b c d cone = bw L a b c d cone n) := yz (by rw [yy HV]; rfl)
 clear hc HV
 have va := yy HA2
 obtain ⟨c0, c1, c2, c3⟩ := va
 go_wp2_with fail
 refine (yy cA _ (yy HK) (yy HR) ((yy HS).kept (yy HB2))).mono ?_
 rintro e w4 ⟨v, rfl, ho, hx⟩
 have HO : Hid (w4.ownsRow (w.heap.size + 1) 2 1 v (bw L a b c d cone n).length (lR (bw L a b c d cone n))) := yz (World.ownsRow_less ho (by omega))
 have HB4 := yz (aj (yy HB2) hx)
 clear hx ho c0 c1 c2 c3
 go_wp2_with fail
 go_ret
 exact ⟨_, rfl, by rw [yy HV']; exact yy HO, yy HB4⟩
end
section
open Go.RowKit Go.Sort
theorem kr {w : World} {B B' m m' n n' : Nat} {t t' : TypeId} {v v' : Value} {xs xs' : List Value} (h : w.ownsRow B t m v n xs) (h' : w.ownsRow B' t' m' v' n' xs') (ht : t ≠ t') : v.ownBlock = none ∨ v.ownBlock ≠ v'.ownBlock := by
 rcases h.2 with ⟨rfl, _⟩ | ⟨g, cap, cur, rfl, _, hg, _⟩
 ·exact .inl rfl
 ·refine .inr (fun e => ?_)
  rcases h'.2 with ⟨rfl, _⟩ | ⟨g', cap', cur', rfl, _, hg', _⟩
  ·cases e
  ·obtain rfl : g = g' := Option.some.inj e
   rw [hg] at hg'
   injection hg' with e1
   injection e1 with _ e2
   exact ht e2
structure jf (w wr : World) (S : List D3) (a : Option Addr) (cap : Nat) (I : List Int) (a2 : Option Addr) (cap2 : Nat) : Prop where
 row : wr.ownsRow w.heap.size 67 3 (.slice a S.length cap) S.length (flL S)
 few : wr.ownsRow w.heap.size 2 1 (.slice a2 I.length cap2) I.length (bu I)
 bel : Below w.heap.size w wr
theorem jf.below {w wr w2 : World} {S : List D3} {a a2 : Option Addr} {cap cap2 : Nat} {I : List Int} (h : jf w wr S a cap I a2 cap2) (hx : Below wr.heap.size wr w2) : jf w w2 S a cap I a2 cap2 :=
 ⟨au h.row hx, au h.few hx, aj h.bel hx⟩
theorem jf.app {w wr w2 : World} {S : List D3} {a a2 : Option Addr} {cap cap2 : Nat} {I : List Int} {v : D3} {v' : Value} (h : jf w wr S a cap I a2 cap2) (hg : wr.grownBy w2 (Value.slice a S.length cap).ownBlock) (hr : w2.ownsRow w.heap.size 67 3 v' (S.length + 1) (flL S ++ vcL v)) : ∃ a3 cap3, v' = .slice a3 (S.length + 1) cap3 ∧ jf w w2 (S ++ [v]) a3 cap3 I a2 cap2 := by
 obtain ⟨a3, c3, rfl, _⟩ := eq hr
 refine ⟨a3, c3, rfl, ?_, World.ownsRow.kept h.few hg (kr h.few h.row (by decide)), kW h.bel h.bel.size h.row hg⟩
 rw [← kM] at hr
 rw [show (S ++ [v]).length = S.length + 1 by simp]
 exact hr
theorem jf.add {w wr w2 : World} {S : List D3} {a a2 : Option Addr} {cap cap2 : Nat} {I : List Int} {x : Int} {v' : Value} (h : jf w wr S a cap I a2 cap2) (hg : wr.grownBy w2 (Value.slice a2 I.length cap2).ownBlock) (hr : w2.ownsRow w.heap.size 2 1 v' (I.length + 1) (bu I ++ [.int .i64 x])) : ∃ a3 cap3, v' = .slice a3 (I.length + 1) cap3 ∧ jf w w2 S a cap (I ++ [x]) a3 cap3 := by
 obtain ⟨a3, c3, rfl, _⟩ := eq hr
 refine ⟨a3, c3, rfl, World.ownsRow.kept h.row hg (kr h.row h.few (by decide)), ?_, kW h.bel h.bel.size h.few hg⟩
 rw [show (I ++ [x]).length = I.length + 1 by simp, show bu (I ++ [x]) = bu I ++ [.int .i64 x] by simp [bu]]
 exact hr
theorem sG {w : World} {B : Nat} {a : Option Addr} {c : Nat} {xs : List Int} (h : w.ownsRow B 2 1 (.slice a xs.length c) xs.length (lR xs)) {k : Nat} (hk : k < xs.length) : ∃ g, a = some ⟨g, 0, none⟩ ∧ g < w.heap.size ∧ w.cell? ⟨g, k, none⟩ = some (.int .i64 (xs.getD k 0)) := by
 rcases h.2 with ⟨_, h0⟩ | ⟨g, cap, cur, e, hb, hg, h1, h2, h3, h4⟩
 ·omega
 ·injection e with e1 e2 e3
  subst e1 e3
  refine ⟨g, rfl, (Array.getElem?_eq_some_iff.1 hg).1, ?_⟩
  rw [World.ownsRow.cellAt h k (by omega)]
  unfold lR
  rw [List.getElem?_map, List.getElem?_eq_getElem hk, List.getD_eq_getElem?_getD, List.getElem?_eq_getElem hk]
  rfl
theorem tE (L : List St) (a b c d cone : Int) : (fu L a b c d cone).length ≤ 12 := by
 unfold fu
 split
 ·rename_i h
  rw [Bool.and_eq_true, Bool.and_eq_true] at h
  have := ly L a b c d cone L.length
  have := (bm h.1.1).1
  omega
 ·simp
theorem fq {w : World} {g : Nat} {x : Int} (h : Blk w g [.int .i64 x] 2) (j : Nat) (u : Value) (hj : ([.int .i64 x] : List Value)[j]? = some u) : w.cell? ((⟨g, 0, none⟩ : Addr).add j) = some u := by
 have e : (⟨g, 0, none⟩ : Addr).add j = ⟨g, j, none⟩ := by cases j <;> simp [Addr.add]
 rw [e]
 exact h.cell j u hj
theorem tz (L : List St) (a b c d cone : Int) (k : Nat) (X : List Int) (hX : fu L a b c d cone = X) (hk : k < X.length) (h6 : k < 6) : X.take (k + 1) = X.take k ++ [X.getD k 0] ∧ (X.take (k + 1)).map (scV L a b c d) = (X.take k).map (scV L a b c d) ++ [scV L a b c d (X.getD k 0)] := by
 have e : X.take (k + 1) = X.take k ++ [X.getD k 0] := by
  rw [List.take_add_one, List.getD_eq_getElem?_getD, List.getElem?_eq_getElem hk]
  rfl
 exact ⟨e, by rw [e, List.map_append]; rfl⟩
theorem oM (L : List St) (A B C D cone : Int) (sa : Option Addr) (sc : Nat) (w : World) (hn : L.length ≤ 1048576) (hL : aJ w sa L L.length) :
  Calls Tryz.prog 21 #[.slice sa L.length sc, .agg #[.int .i64 A, .int .i64 B, .int .i64 C, .int .i64 D], .int .i64 cone] w fun e w' => ∃ (a a2 : Option Addr) (cap cap2 : Nat), e = .returned (.tuple #[.slice a (scI L A B C D cone).length cap, .slice a2 (scI L A B C D cone).length cap2]) ∧ w'.ownsRow w.heap.size 67 3 (.slice a (scS L A B C D cone).length cap) (scS L A B C D cone).length (flL (scS L A B C D cone)) ∧ w'.ownsRow w.heap.size 2 1 (.slice a2 (scI L A B C D cone).length cap2) (scI L A B C D cone).length (bu (scI L A B C D cone)) ∧ Below w.heap.size w w' := by
 obtain ⟨i0, hinf, hz0, hz1, hz2⟩ := info_parts mD
 obtain ⟨j0, jinf, jz0, jz1, jz2⟩ := info_parts eQ
 have hm8 : 400 ≤ maxLen := by decide +kernel
 have Z := ak w (.cells #[.int .i64 A, .int .i64 B, .int .i64 C, .int .i64 D] 34)
 have HX := yz (aO w [.int .i64 A, .int .i64 B, .int .i64 C, .int .i64 D] 34)
 have cS := yz (nU L A B C D cone sa sc (w.alloc (.cells #[.int .i64 A, .int .i64 B, .int .i64 C, .int .i64 D] 34)) hn (hL.kept Z))
 have HL := yz (hL.kept Z)
 have HB := yz Z
 clear Z hL
 go_enter Tryz.func21, Tryz.ntmps21
 go_upto_region 1 with fail
 generalize w.alloc (.cells #[.int .i64 A, .int .i64 B, .int .i64 C, .int .i64 D] 34) = W0 at *
 obtain ⟨d0, d1, d2, d3⟩ := pu (yy HX)
 go_wp2_with fail
 refine (yy cS).mono ?_
 rintro e W1 ⟨v, rfl, hown, hx⟩
 have HX1 := yz ((yy HX).kept hx)
 have HL1 := yz ((yy HL).kept hx)
 have HB1 := yz (aj (yy HB) hx)
 clear hx HX HL HB cS d0 d1 d2 d3
 obtain ⟨X, hX⟩ : ∃ X, fu L A B C D cone = X := ⟨_, rfl⟩
 rw [hX] at hown
 have HXE := yz hX
 have h12 : X.length ≤ 12 := by rw [← hX]; exact tE L A B C D cone
 clear hX
 obtain ⟨xa, xc, rfl, hxc⟩ := eq hown
 have HXR : Hid (∀ k, k < X.length → ∃ g, xa = some ⟨g, 0, none⟩ ∧ g < W1.heap.size ∧ W1.cell? ⟨g, k, none⟩ = some (.int .i64 (X.getD k 0))) := yz (fun k hk => sG hown hk)
 clear hown
 have HST0 : Hid (jf W1 ((W1.alloc (.cells #[] 67)).alloc (.cells #[] 2)) [] (some ⟨W1.heap.size, 0, none⟩) 0 [] (some ⟨W1.heap.size + 1, 0, none⟩) 0) := yz ⟨au (World.ownsRow_lit W1 #[] 0 (Nat.le_refl _) (by simp [maxLen]) rfl) (ak _ _), by have h := World.ownsRow_lit (base := W1.heap.size) (e := 2) (size := 1) (W1.alloc (.cells #[] 67)) #[] 0 (by simp) (by simp [maxLen]) rfl; simpa [bu] using h, bj W1 _ _⟩
 go_upto_region 4 with fail
 generalize (W1.alloc (.cells #[] 67)).alloc (.cells #[] 2) = W2 at *
 go_wp2_with fail
 go_loopw [9, 10, 11] (fun lv fv iv wr => ∃ (k : Nat) (S : List D3) (I : List Int) (a a2 : Option Addr) (cap cap2 : Nat), iv = .int .i64 k ∧ lv = .slice a S.length cap ∧ fv = .slice a2 I.length cap2 ∧ k ≤ 6 ∧ k ≤ X.length ∧ S.length ≤ 6 ∧ I.length ≤ 6 ∧ Hid (I = X.take k ∧ S = I.map (scV L A B C D)) ∧ Hid (jf W1 wr S a cap I a2 cap2)) (fun _ _ iv _ => 7 - (intOf iv).toNat)
 case atStart => exact ⟨0, [], [], _, _, 0, 0, rfl, rfl, rfl, by omega, by omega, by decide, by decide, yz ⟨rfl, rfl⟩, HST0⟩
 case round =>
  clear HST0
  obtain ⟨k, S, I, a, a2, cap, cap2, rfl, rfl, rfl, hk6, hkX, hs6, hi6, HE, HS⟩ := hrel
  by_cases hb : k < X.length ∧ k < 6
  ·obtain ⟨hk, h6⟩ := hb
   have hk' : (k : Int) < (X.length : Int) := by omega
   have h6' : (k : Int) < 6 := by omega
   obtain ⟨g, rfl, hgl, hgc⟩ := yy HXR k hk
   have hwl : w.heap.size < W1.heap.size := (yy HX1).lt
   have HKS : Hid (∀ w' : World, Below W1.heap.size W1 w' → (w'.cell? ⟨w.heap.size, 0, none⟩ = some (.int .i64 A) ∧ w'.cell? ⟨w.heap.size, 1, none⟩ = some (.int .i64 B) ∧ w'.cell? ⟨w.heap.size, 2, none⟩ = some (.int .i64 C) ∧ w'.cell? ⟨w.heap.size, 3, none⟩ = some (.int .i64 D)) ∧ w'.cell? ⟨g, k, none⟩ = some (.int .i64 (X.getD k 0))) := yz (fun w' h => ⟨⟨by rw [h.cell hwl]; exact (yy HX1).cell 0 _ rfl, by rw [h.cell hwl]; exact (yy HX1).cell 1 _ rfl, by rw [h.cell hwl]; exact (yy HX1).cell 2 _ rfl, by rw [h.cell hwl]; exact (yy HX1).cell 3 _ rfl⟩, by rw [h.cell hgl]; exact hgc⟩)
   clear hgc
   go_upto_region 7 with fail
   obtain ⟨x, HXK⟩ : ∃ x, X.getD k 0 = x := ⟨_, rfl⟩
   rw [HXK] at HKS
   obtain ⟨v1, v2, v3, y1, y2, y3, z1, z2, z3, cSt, cAp, cPr, HV⟩ : ∃ v1 v2 v3 y1 y2 y3 z1 z2 z3 : Int, Hid (∀ W : World, aJ W sa L L.length → Calls Tryz.prog 52 #[.slice sa L.length sc, .int .i64 x] W fun e w' => e = .returned (.agg #[.int .i64 v1, .int .i64 v2, .int .i64 v3]) ∧ Below W.heap.size W w') ∧ Hid (∀ W : World, Calls Tryz.prog 51 #[.agg #[.int .i64 A, .int .i64 B, .int .i64 C, .int .i64 D], .agg #[.int .i64 v1, .int .i64 v2, .int .i64 v3]] W fun e w' => e = .returned (.agg #[.int .i64 y1, .int .i64 y2, .int .i64 y3]) ∧ Below W.heap.size W w') ∧ Hid (∀ W : World, Calls Tryz.prog 50 #[.agg #[.int .i64 y1, .int .i64 y2, .int .i64 y3]] W fun e w' => e = .returned (.agg #[.int .i64 z1, .int .i64 z2, .int .i64 z3]) ∧ Below W.heap.size W w') ∧ Hid (scV L A B C D x = (z1, z2, z3)) :=
    ⟨_, _, _, _, _, _, _, _, _, yz (fun W hW => lC L x sa sc W hn hW), yz (fun W => ik A B C D _ _ _ W), yz (fun W => lX _ _ _ W), yz rfl⟩
   go_cut [9] (fun pv wx => ∃ (wv : World) (a9 : Option Addr) (c9 : Nat), wv = wx ∧ pv = .slice a9 (S.length + 1) c9 ∧ Hid (jf W1 wx (S ++ [(z1, z2, z3)]) a9 c9 I a2 cap2))
   case first =>
    refine wp_region_held_drew (S := (fun w' => (w'.cell? ⟨w.heap.size, 0, none⟩ = some (.int .i64 A) ∧ w'.cell? ⟨w.heap.size, 1, none⟩ = some (.int .i64 B) ∧ w'.cell? ⟨w.heap.size, 2, none⟩ = some (.int .i64 C) ∧ w'.cell? ⟨w.heap.size, 3, none⟩ = some (.int .i64 D)) ∧ w'.cell? ⟨g, k, none⟩ = some (.int .i64 x))) (by kernel_rfl) (yy HKS wr (yy HS).bel) (fun hHeld => ?_)
    refine ab 0 rfl ?_
    try simp only [Act.put, ag, ah, ai]
    refine ab 1 rfl ?_
    try simp only [Act.put, ag, ah, ai]
    refine ab 2 rfl ?_
    try simp only [Act.put, ag, ah, ai]
    refine ab 3 rfl ?_
    try simp only [Act.put, ag, ah, ai]
    refine ab 4 rfl ?_
    try simp only [Act.put, ag, ah, ai]
    refine ab 5 rfl ?_
    try simp only [Act.put, ag, ah, ai]
    refine ab 6 rfl ?_
    try simp only [Act.put, ag, ah, ai]
    have HV0 : Hid (jf W1 wr.drew S a cap I a2 cap2) := yz ((yy HS).below (Below.refl wr.heap.size wr).drew)
    clear HS
    obtain ⟨V0, HYY⟩ : ∃ YY, YY = wr.drew := ⟨_, rfl⟩
    rw [← HYY] at HV0 hHeld ⊢
    clear HYY
    refine ae 7 rfl fun K hK => ?_
    go_simp
    refine (yy cSt V0 ((yy HL1).kept (yy HV0).bel)).mono ?_
    rintro e V1 ⟨rfl, hx⟩
    replace HV0 := yz ((yy HV0).below hx)
    clear hx
    refine hK.out _ _ (yy HKS _ (yy HV0).bel) (fun hHeld2 => ?_)
    clear hK K hHeld
    have hHeld := hHeld2
    clear hHeld2
    refine ae 8 rfl fun K hK => ?_
    go_simp
    refine (yy cAp V1).mono ?_
    rintro e V2 ⟨rfl, hx⟩
    replace HV0 := yz ((yy HV0).below hx)
    clear hx
    refine hK.out _ _ (yy HKS _ (yy HV0).bel) (fun hHeld2 => ?_)
    clear hK K hHeld
    have hHeld := hHeld2
    clear hHeld2
    refine ae 9 rfl fun K hK => ?_
    go_simp
    refine (yy cPr V2).mono ?_
    rintro e V3 ⟨rfl, hx⟩
    replace HV0 := yz ((yy HV0).below hx)
    clear hx
    refine hK.out _ _ (yy HKS _ (yy HV0).bel) (fun hHeld2 => ?_)
    clear hK K hHeld
    have hHeld := hHeld2
    clear hHeld2
    refine ae 10 rfl fun K hK => ?_
    go_simp
    have hy := ak V3 (.cells #[.int .i64 z1, .int .i64 z2, .int .i64 z3] 67)
    have HN := yz (aO V3 [.int .i64 z1, .int .i64 z2, .int .i64 z3] 67)
    replace HV0 := yz ((yy HV0).below hy)
    clear hy
    refine hK.out _ _ (yy HKS _ (yy HV0).bel) (fun hHeld2 => ?_)
    clear hK K hHeld
    have hHeld := hHeld2
    clear hHeld2
    refine ae 11 rfl fun K hK => ?_
    have hown := (yy HV0).row
    have hbase : W1.heap.size ≤ (V3.alloc (.cells #[.int .i64 z1, .int .i64 z2, .int .i64 z3] 67)).heap.size := (yy HV0).bel.size
    refine (if_pos (by kernel_rfl)).mpr ?_
    simp only [List.getElem_toArray, List.getElem_cons_succ, List.getElem_cons_zero]
    generalize hA : ({ tmps := _, defers := _ } : Act) = aa
    have hf0 : aa.eval (Operand.tmp 28) = .slice a S.length cap := by subst hA; simp [go_sem]
    have hf1 : aa.eval (Operand.tmp 38) = .slice (some ⟨V3.heap.size, 0, none⟩) 1 1 := by subst hA; simp [go_sem]
    refine wp_append_own _ (Operand.tmp 28) (Operand.tmp 38) 24 rfl W1.heap.size 67 i0 (.agg #[.int .i64 0, .int .i64 0, .int .i64 0]) 3 24 Tryz.underlying24 hinf hz0 hz1 hz2 rfl (by decide) (.slice a S.length cap) S.length (flL S) hf0 hown ⟨V3.heap.size, 0, none⟩ 1 1 (vcL (z1, z2, z3)) hf1 rfl (gv (yy HN)) (fun u hu => iZ hu) (by omega) (by omega) hbase ?_
    intro v7 V7 hown7 hgrow7 _
    subst hA
    obtain ⟨a9, c9, rfl, hS9⟩ := (yy HV0).app hgrow7 hown7
    have HS9 := yz hS9
    clear hown7 hgrow7 hS9 hown HN HV0 hf0 hf1
    refine hK.out _ _ (yy HKS _ (yy HS9).bel) (fun hHeld2 => ?_)
    clear hK K hHeld
    have hHeld := hHeld2
    clear hHeld2
    refine ae 12 rfl fun K hK => ?_
    go_simp
    refine hK.out _ _ (yy HKS _ (yy HS9).bel) (fun hHeld2 => ?_)
    clear hK K hHeld
    refine wpAnyH_done (by kernel_rfl) ?_ _
    clear hHeld2
    go_wp2_with fail
    go_meet
    exact ⟨_, a9, c9, rfl, rfl, HS9⟩
   case rest =>
   clear HS cSt cAp cPr
   obtain ⟨wx, a9, c9, hwx, rfl, HS⟩ := hcut
   subst hwx
   obtain ⟨_, hgx⟩ := yy HKS wx (yy HS).bel
   have hy := ak wx (.cells #[.int .i64 x] 2)
   have HN := yz (aO wx [.int .i64 x] 2)
   have HS8 := yz ((yy HS).below hy)
   clear hy HS
   have hown := (yy HS8).few
   have hbase : W1.heap.size ≤ (wx.alloc (.cells #[.int .i64 x] 2)).heap.size := (yy HS8).bel.size
   go_wp2_with (at_builtin; refine wpList_append_own _ rfl _ _ 27 rfl W1.heap.size 2 j0 (.int .i64 0) 1 8 Tryz.underlying27 jinf jz0 jz1 jz2 rfl (by decide) _ _ _ rfl hown ⟨wx.heap.size, 0, none⟩ 1 1 [.int .i64 x] rfl rfl (fq (yy HN)) ?c2 ?c3 ?c4 hbase ?_)
   case c2 => exact fun u hu => dX (S := [x]) hu
   case c3 => omega
   case c4 => omega
   intro v7 V7 hown7 hgrow7 _
   obtain ⟨a8, c8, rfl, hS9⟩ := (yy HS8).add hgrow7 hown7
   have HS9 := yz hS9
   clear hown7 hgrow7 hS9 hown HN HS8 hgx
   have HE9 : Hid (I ++ [x] = X.take (k + 1) ∧ S ++ [(z1, z2, z3)] = (I ++ [x]).map (scV L A B C D)) := yz (by
    obtain ⟨e1, e2⟩ := yy HE
    obtain ⟨t1, _⟩ := tz L A B C D cone k X (yy HXE) hk h6
    rw [HXK, ← e1] at t1
    exact ⟨t1.symm, by rw [List.map_append, ← e2]; show _ = S ++ [scV L A B C D x]; rw [yy HV]⟩)
   have HXK2 := yz HXK
   clear HE HV HXK
   go_wp2_with fail
   go_roundw
   case rel => exact ⟨k + 1, S ++ [(z1, z2, z3)], I ++ [x], a9, a8, c9, c8, by go_num, by rw [show (S ++ [(z1, z2, z3)]).length = S.length + 1 by simp], by rw [show (I ++ [x]).length = I.length + 1 by simp], by omega, by omega, by have h := yy HE9; rw [h.2, h.1, List.length_map, List.length_take]; omega, by have h := yy HE9; rw [h.1, List.length_take]; omega, HE9, HS9⟩
   case measure => simp [intOf] <;> omega
  ·have HEI : Hid (I = scI L A B C D cone ∧ S = scS L A B C D cone) := yz (by
    obtain ⟨e1, e2⟩ := yy HE
    have e3 : I = scI L A B C D cone := by
     unfold scI
     rw [yy HXE, e1]
     by_cases h6 : k < 6
     ·rw [List.take_of_length_le (show X.length ≤ k by omega), List.take_of_length_le (show X.length ≤ 6 by omega)]
     ·rw [show k = 6 by omega]
    exact ⟨e3, by rw [e2, e3]; rfl⟩)
   have hfin : ∃ (b b2 : Option Addr) (cb cb2 : Nat), Ending.returned (.tuple #[.slice a S.length cap, .slice a2 I.length cap2]) = .returned (.tuple #[.slice b (scI L A B C D cone).length cb, .slice b2 (scI L A B C D cone).length cb2]) ∧ wr.ownsRow w.heap.size 67 3 (.slice b (scS L A B C D cone).length cb) (scS L A B C D cone).length (flL (scS L A B C D cone)) ∧ wr.ownsRow w.heap.size 2 1 (.slice b2 (scI L A B C D cone).length cb2) (scI L A B C D cone).length (bu (scI L A B C D cone)) ∧ Below w.heap.size w wr := by
    obtain ⟨e1, e2⟩ := yy HEI
    have hl : w.heap.size ≤ W1.heap.size := (yy HB1).size
    have hlen : S.length = I.length := by rw [e2, fJ, ← e1]
    refine ⟨a, a2, cap, cap2, ?_, ?_, ?_, aj (yy HB1) (yy HS).bel⟩
    ·rw [← e1, hlen]
    ·rw [← e2]; exact World.ownsRow.mono (yy HS).row hl
    ·rw [← e1]; exact World.ownsRow.mono (yy HS).few hl
   have HF := yz hfin
   clear hfin HEI HE HS
   rcases (by omega : ¬ (k : Int) < (X.length : Int) ∨ ((k : Int) < (X.length : Int) ∧ ¬ (k : Int) < 6)) with h1' | ⟨h1', h2'⟩
   all_goals (go_wp2_with fail; exact bodyPost_ret (v := .tuple #[.slice a S.length cap, .slice a2 I.length cap2]) (by simp [results, Tryz.results21, go_sem]) rfl (yy HF))
end
section
end
section
open Go.RowKit Go.Sort
theorem dj {w : World} {B m n b : Nat} {t t' : TypeId} {v : Value} {xs cs : List Value} (h : w.ownsRow B t m v n xs) (h' : Blk w b cs t') (ht : t ≠ t') : v.ownBlock = none ∨ v.ownBlock ≠ some b := by
 rcases h.2 with ⟨rfl, _⟩ | ⟨g, cap, cur, rfl, _, hg, _⟩
 ·exact .inl rfl
 ·refine .inr (fun e => ?_)
  obtain rfl : g = b := Option.some.inj e
  have h2 : w.heap[g]? = some (.cells cs.toArray t') := h'
  rw [hg] at h2
  injection h2 with e1
  injection e1 with _ e2
  exact ht e2
theorem nj (W : World) (b i : Nat) (v : Value) : W.grownBy (W.setCell ⟨b, i, none⟩ v) (some b) := ⟨rfl, rfl, rfl, by simp [World.setCell], fun k _ hk => heap_setCell_other W _ k _ (fun e => hk (by rw [e]))⟩
theorem fa (W : World) (b : Nat) (x0 x1 x2 x3 : Value) : W.grownBy ((((W.setCell ⟨b, 0, none⟩ x0).setCell ⟨b, 1, none⟩ x1).setCell ⟨b, 2, none⟩ x2).setCell ⟨b, 3, none⟩ x3) (some b) := an (an (an (nj _ _ _ _) (nj _ _ _ _)) (nj _ _ _ _)) (nj _ _ _ _)
theorem jE {W : World} {b : Nat} {v0 v1 v2 v3 : Value} {t : TypeId} (h : Blk W b [v0, v1, v2, v3] t) (x0 x1 x2 x3 : Value) : Blk ((((W.setCell ⟨b, 0, none⟩ x0).setCell ⟨b, 1, none⟩ x1).setCell ⟨b, 2, none⟩ x2).setCell ⟨b, 3, none⟩ x3) b [x0, x1, x2, x3] t := Blk.set (Blk.set (Blk.set (Blk.set h 0 _) 1 _) 2 _) 3 _
theorem Row.upI {w w' : World} {a : Option Addr} {len B B' : Nat} (h : Row w a len B) (hB : B ≤ B') (hk : ∀ k, k < B → w'.heap[k]? = w.heap[k]?) : Row w' a len B' := by
 rcases h with h | ⟨b, o, rfl, hb, h⟩
 ·exact .inl h
 ·refine .inr ⟨b, o, rfl, Nat.lt_of_lt_of_le hb hB, fun i hi => ?_⟩
  obtain ⟨v, hv, h2⟩ := h i hi
  exact ⟨v, by rw [World.cell?_of_block (a := ⟨b, o + i, none⟩) (hk b hb)]; exact hv, h2⟩
theorem pL {w : World} {lo hi n : Nat} {v : Value} {ids : List Int} (h : iE w 2 1 lo hi n v (fun j => .int .i64 (ids.getD j 0))) : ∃ a k, v = .slice a n k ∧ bF w a ids n := by
 rcases h with ⟨rfl, a, k, rfl⟩ | ⟨g, k, rfl, _, _, hr⟩
 ·exact ⟨a, k, rfl, .inl rfl⟩
 ·exact ⟨_, k, rfl, iN hr⟩
theorem oH (ids : List Int) {j : Nat} (hj : j < ids.length) : (bu ids)[j]? = some (.int .i64 (ids.getD j 0)) := by
 unfold bu
 rw [List.getElem?_map, List.getElem?_eq_getElem hj, List.getD_eq_getElem?_getD, List.getElem?_eq_getElem hj]
 rfl
theorem jt {w : World} {B n : Nat} {v : Value} {ids : List Int} (hn : ids.length = n) (h : w.ownsRow B 2 1 v n (bu ids)) : ∃ a k, v = .slice a n k ∧ bF w a ids n ∧ n ≤ k ∧ k ≤ maxLen := by
 subst hn
 obtain ⟨a, k, e, _⟩ := eq h
 subst e
 refine ⟨a, k, rfl, ?_⟩
 rcases h.2 with ⟨h1, h0⟩ | ⟨g, cap, cur, e, hb, hg, h1, h2, h3, h4⟩
 ·injection h1 with e1 e2 e3
  exact ⟨.inl h0, by omega, by rw [e3]; exact Nat.zero_le _⟩
 ·injection e with e1 e2 e3
  subst e1 e3
  refine ⟨.inr ⟨g, 0, rfl, (Array.getElem?_eq_some_iff.1 hg).1, fun i hi => ?_⟩, h1, h2⟩
  have := World.ownsRow.cellAt h (i * 1 + 0) (by omega)
  rw [Nat.mul_one, Nat.add_zero] at this
  rw [Nat.zero_add, this, oH ids hi]
theorem kX (L : List St) (S : List D3) (ar br : Option Addr) (cr dr : Nat) (p : Addr) (w : World) (hn : L.length ≤ 1048576) (hm : S.length ≤ 1048576) (hcr : L.length ≤ cr) (hc9 : cr ≤ 9223372036854775807) (hdr : S.length ≤ dr) (hd9 : dr ≤ 9223372036854775807) (hS : aJ w ar L L.length) (hD : bi w br S S.length) (hA : ∀ y, ar = some y → y.block < w.heap.size) (hB : ∀ y, br = some y → y.block < w.heap.size) (hE : bg p w) :
  Calls Tryz.prog 5 #[.slice ar L.length cr, .slice br S.length dr] w fun e w' => (∃ a k, e = .returned (.agg #[.slice a (bl L S).length k, .int .i64 (bT L S), .int .i64 (bH L S)]) ∧ bF w' a (bl L S) (bl L S).length) ∧ Below w.heap.size w w' := by
 refine (np L S ar br cr dr p w hn hm hcr hc9 hdr hd9 hS hD hA hB hE).mono ?_
 rintro e w' ⟨⟨v, rfl, h⟩, hx⟩
 refine ⟨?_, hx⟩
 rcases h with ⟨e0, rfl⟩ | ⟨g, rfl, _, hr⟩
 ·rw [e0]; exact ⟨none, 0, rfl, .inl rfl⟩
 ·exact ⟨_, _, rfl, iN hr⟩
theorem pE (L : List St) (S : List D3) (ar br : Option Addr) (cr dr : Nat) (w : World) (hn : L.length ≤ 1048576) (hm : S.length ≤ 1048576) (hdr : S.length ≤ dr) (hd9 : dr ≤ 9223372036854775807) (hS : aJ w ar L L.length) (hD : bi w br S S.length) (hA : ∀ y, ar = some y → y.block < w.heap.size) (hB : ∀ y, br = some y → y.block < w.heap.size) :
  Calls Tryz.prog 10 #[.slice ar L.length cr, .slice br S.length dr] w fun e w' => (∃ a k, e = .returned (.agg #[.slice a (bl L S).length k, .int .i64 (bT L S), .int .i64 (bH L S)]) ∧ bF w' a (bl L S) (bl L S).length) ∧ Below w.heap.size w w' := by
 refine (jz L S ar br cr dr w hn hm hdr hd9 hS hD hA hB).mono ?_
 rintro e w' ⟨⟨v, rfl, h⟩, hx⟩
 obtain ⟨a, k, rfl, hN, _⟩ := jt rfl h
 exact ⟨⟨a, k, rfl, hN⟩, hx⟩
theorem lg (L : List St) (S : List D3) (ar br : Option Addr) (cr dr : Nat) (a b c d : Int) (p : Addr) (w : World) (hn : L.length ≤ 1048576) (hcap : L.length ≤ cr) (hc9 : cr ≤ 9223372036854775807) (hn2 : S.length ≤ 1048576) (hcap2 : S.length ≤ dr) (hd9 : dr ≤ 9223372036854775807) (hS : aJ w ar L L.length) (hD : bi w br S S.length) (hE : bg p w) :
  Calls Tryz.prog 14 #[.slice ar L.length cr, .agg #[.int .i64 a, .int .i64 b, .int .i64 c, .int .i64 d], .slice br S.length dr] w fun e w' => (∃ x k, e = .returned (.slice x (aX L a b c d S).length k) ∧ bF w' x (aX L a b c d S) (aX L a b c d S).length) ∧ Below w.heap.size w w' := by
 refine (kf L S ar br cr dr a b c d p w hn hcap hc9 hn2 hcap2 hd9 hS hD hE).mono ?_
 rintro e w' ⟨⟨v, rfl, h⟩, hx⟩
 obtain ⟨x, k, rfl, hN⟩ := pL h
 exact ⟨⟨x, k, rfl, hN⟩, hx⟩
theorem pH (L : List St) (S : List D3) (ar br : Option Addr) (cr dr : Nat) (a b c d : Int) (w : World) (hn : L.length ≤ 1048576) (hn2 : S.length ≤ 1048576) (hS : aJ w ar L L.length) (hD : bi w br S S.length) :
  Calls Tryz.prog 15 #[.slice ar L.length cr, .agg #[.int .i64 a, .int .i64 b, .int .i64 c, .int .i64 d], .slice br S.length dr] w fun e w' => (∃ x k, e = .returned (.slice x (aX L a b c d S).length k) ∧ bF w' x (aX L a b c d S) (aX L a b c d S).length) ∧ Below w.heap.size w w' := by
 refine (fQ L S ar br cr dr a b c d w hn hn2 hS hD).mono ?_
 rintro e w' ⟨⟨v, rfl, h⟩, hx⟩
 obtain ⟨x, k, rfl, hN, _⟩ := jt rfl h
 exact ⟨⟨x, k, rfl, hN⟩, hx⟩
theorem eh (L : List Int) (a a' : Option Addr) (c c' : Nat) (w : World) (hn : L.length ≤ 1048576) (hS : bF w a L L.length) (hS' : bF w a' L L.length) :
  Calls Tryz.prog 13 #[.slice a L.length c, .slice a' L.length c'] w fun e w' => e = .returned (.bool true) ∧ Below w.heap.size w w' := by
 have HS := yz hS
 have HS' := yz hS'
 clear hS hS'
 go_enter Tryz.func13, Tryz.ntmps13
 go_wp2_with fail
 go_loopw [5] (fun i wr => ∃ k : Nat, k ≤ L.length ∧ i = .int .i64 k ∧ Hid (Below w.heap.size w wr)) (fun i _ => L.length - (intOf i).toNat)
 case atStart => exact ⟨0, by omega, rfl, yz (Below.refl _ _)⟩
 case round =>
  obtain ⟨k, hk, rfl, HB⟩ := hrel
  by_cases hkn : k < L.length
  ·have hkn2 : (k : Int) < (L.length : Int) := by omega
   have h1 : ∃ g o, a = some ⟨g, o, none⟩ ∧ wr.cell? ⟨g, o + k, none⟩ = some (.int .i64 (L.getD k 0)) := by
    rcases (yy HS).kept (yy HB) with h | ⟨g, o, e, _, h⟩
    ·omega
    ·exact ⟨g, o, e, h k hkn⟩
   have h2 : ∃ g o, a' = some ⟨g, o, none⟩ ∧ wr.cell? ⟨g, o + k, none⟩ = some (.int .i64 (L.getD k 0)) := by
    rcases (yy HS').kept (yy HB) with h | ⟨g, o, e, _, h⟩
    ·omega
    ·exact ⟨g, o, e, h k hkn⟩
   obtain ⟨g, o, rfl, hc⟩ := h1
   obtain ⟨g', o', rfl, hd⟩ := h2
   generalize L.getD k 0 = z at *
   have r0 := cell_regrown hc
   have t0 := cell_regrown hd
   have hzz : (z == z) = true := by simp
   clear hc hd
   go_wp2_with fail
   refine wp_region_quiet_below (by kernel_rfl) (by kernel_rfl) ?_
   repeat (go_big_quiet_step (fail))
   refine wpQuiet_nil ?_
   intro _ hw'
   obtain ⟨⟨dq, osq⟩, hw''⟩ := hw'
   subst hw''
   have hx := aj (yy HB) (below_regrown wr dq osq)
   generalize grow (redrawn wr dq) osq = W2 at hx ⊢
   have HB2 := yz hx
   clear hx HB r0 t0
   go_wp2_with fail
   go_roundw
   case rel => exact ⟨k + 1, by omega, by go_num, HB2⟩
   case measure => simp [intOf] <;> omega
  ·have hkn' : k = L.length := by omega
   subst hkn'
   go_wp2_with fail
   go_ret
   exact ⟨rfl, yy HB⟩
theorem nA (L : List Int) (cnt code : Int) (a a' : Option Addr) (c c' : Nat) (w : World) (hn : L.length ≤ 1048576) (hS : bF w a L L.length) (hS' : bF w a' L L.length) :
  Calls Tryz.prog 9 #[.agg #[.slice a L.length c, .int .i64 cnt, .int .i64 code], .agg #[.slice a' L.length c', .int .i64 cnt, .int .i64 code]] w fun e w' => e = .returned (.bool true) ∧ Below w.heap.size w w' := by
 have Z := bj w (.cells #[.slice a L.length c, .int .i64 cnt, .int .i64 code] 29) (.cells #[.slice a' L.length c', .int .i64 cnt, .int .i64 code] 29)
 have H1 := yz ((aO w [.slice a L.length c, .int .i64 cnt, .int .i64 code] 29).alloc (.cells #[.slice a' L.length c', .int .i64 cnt, .int .i64 code] 29))
 have H2 : Hid (Blk ((w.alloc (.cells #[.slice a L.length c, .int .i64 cnt, .int .i64 code] 29)).alloc (.cells #[.slice a' L.length c', .int .i64 cnt, .int .i64 code] 29)) (w.heap.size + 1) [.slice a' L.length c', .int .i64 cnt, .int .i64 code] 29) := yz (by have h := aO (w.alloc (.cells #[.slice a L.length c, .int .i64 cnt, .int .i64 code] 29)) [.slice a' L.length c', .int .i64 cnt, .int .i64 code] 29; simpa using h)
 have cE := yz (eh L a a' c c' _ hn (hS.kept Z) (hS'.kept Z))
 have HZ := yz Z
 clear hS hS' Z
 go_enter Tryz.func9, Tryz.ntmps9
 go_upto_region 1 with fail
 generalize (w.alloc (.cells #[.slice a L.length c, .int .i64 cnt, .int .i64 code] 29)).alloc (.cells #[.slice a' L.length c', .int .i64 cnt, .int .i64 code] 29) = W at *
 obtain ⟨p0, p1, p2⟩ : W.cell? ⟨w.heap.size, 0, none⟩ = some (.slice a L.length c) ∧ W.cell? ⟨w.heap.size, 1, none⟩ = some (.int .i64 cnt) ∧ W.cell? ⟨w.heap.size, 2, none⟩ = some (.int .i64 code) := ⟨(yy H1).cell 0 _ rfl, (yy H1).cell 1 _ rfl, (yy H1).cell 2 _ rfl⟩
 obtain ⟨q0, q1, q2⟩ : W.cell? ⟨w.heap.size + 1, 0, none⟩ = some (.slice a' L.length c') ∧ W.cell? ⟨w.heap.size + 1, 1, none⟩ = some (.int .i64 cnt) ∧ W.cell? ⟨w.heap.size + 1, 2, none⟩ = some (.int .i64 code) := ⟨(yy H2).cell 0 _ rfl, (yy H2).cell 1 _ rfl, (yy H2).cell 2 _ rfl⟩
 go_wp2_with fail
 refine (yy cE).mono ?_
 rintro e W1 ⟨rfl, hx⟩
 have HB := yz (aj (yy HZ) hx)
 clear p0 p1 p2 q0 q1 q2 hx
 go_wp2_with fail
 go_ret
 exact ⟨rfl, yy HB⟩
end
end Go.Proofs.YtoakkmjcbnfljaaGreatDoor
